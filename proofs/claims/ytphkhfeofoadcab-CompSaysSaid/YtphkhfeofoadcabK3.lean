/- Policies as values and cells. -/
import Derived.Test.YtphkhfeofoadcabK2
import Derived.Test.YtphkhfeofoadcabK1
import Derived.Deep.RegionLaw
import Derived.Lib.QuietBelow
import Derived.Deep.RegionHeld3
import Derived.Deep.RegionWith
import Derived.Laws.Slices
import Derived.Lib.Strings
import Derived.Laws.BitsAllLaws
import Derived.Laws.ResultCell
import Derived.Laws.CopyOwn
namespace Go.Proofs.Ytphkhfeofoadcab
open Go.RowKit

theorem box_below (w : World) (o : Obj) : Below w.heap.size w (w.alloc o) := (Below.refl _ _).alloc (Nat.le_refl _) _
theorem below_next {w w1 w2 : World} (a : Below w.heap.size w w1) (b : Below w1.heap.size w1 w2) : Below w.heap.size w w2 := a.trans (b.mono a.size)
theorem errV_zero : errV 0 = .nilIface := rfl
theorem errV_pos {f : Nat} (h : f ≠ 0) : errV f = .iface 63 (.int .i64 f) := if_neg h

def actV (a : ACT) : Value := .agg #[.int .i64 a.kind, .int .i64 a.errno]
def condV (c : CD) : Value := .agg #[.int .i64 c.arg, .int .i64 c.op, .int .u64 c.v, .int .u64 c.m, .string c.glob, .int .u32 c.net.ip, .int .i64 c.net.bits, .int .i64 c.net.lo, .int .i64 c.net.hi]
def ruleV (r : RL) (oa : Option Addr) (cap : Nat) : Value := .agg #[.int .i64 r.nr, .slice oa r.conds.length cap, .int .i64 r.act.kind, .int .i64 r.act.errno]
def polV (p : POL) (oa : Option Addr) (cap : Nat) : Value := .agg #[.slice oa p.rules.length cap, .int .i64 p.els.kind, .int .i64 p.els.errno]

/-- A cond's cells lie from o on. -/
structure CondAt (W : World) (b o : Nat) (c : CD) : Prop where
  k0 : W.cell? ⟨b, o, none⟩ = some (.int .i64 c.arg)
  k1 : W.cell? ⟨b, o + 1, none⟩ = some (.int .i64 c.op)
  k2 : W.cell? ⟨b, o + 2, none⟩ = some (.int .u64 c.v)
  k3 : W.cell? ⟨b, o + 3, none⟩ = some (.int .u64 c.m)
  k4 : W.cell? ⟨b, o + 4, none⟩ = some (.string c.glob)
  k5 : W.cell? ⟨b, o + 5, none⟩ = some (.int .u32 c.net.ip)
  k6 : W.cell? ⟨b, o + 6, none⟩ = some (.int .i64 c.net.bits)
  k7 : W.cell? ⟨b, o + 7, none⟩ = some (.int .i64 c.net.lo)
  k8 : W.cell? ⟨b, o + 8, none⟩ = some (.int .i64 c.net.hi)
  ok : CdOk c
theorem CondAt.on {W V : World} {b o : Nat} {x : CD} (h : CondAt W b o x) (hc : ∀ j, V.cell? ⟨b, j, none⟩ = W.cell? ⟨b, j, none⟩) : CondAt V b o x :=
  ⟨(hc _).trans h.k0, (hc _).trans h.k1, (hc _).trans h.k2, (hc _).trans h.k3, (hc _).trans h.k4, (hc _).trans h.k5, (hc _).trans h.k6, (hc _).trans h.k7, (hc _).trans h.k8, h.ok⟩
/-- A slice of conds in a world. -/
structure IsConds (oa : Option Addr) (cs : List CD) (W : World) : Prop where
  lie : 0 < cs.length → ∃ b off, oa = some ⟨b, off, none⟩ ∧ b < W.heap.size ∧ ∀ i c, cs[i]? = some c → CondAt W b (off + i * 9) c
theorem IsConds.on {oa : Option Addr} {cs : List CD} {W V : World} (h : IsConds oa cs W) (hb : Below W.heap.size W V) : IsConds oa cs V :=
  ⟨fun h0 => by
    obtain ⟨b, off, h1, h2, h3⟩ := h.lie h0
    exact ⟨b, off, h1, Nat.lt_of_lt_of_le h2 hb.size, fun i c hi => (h3 i c hi).on fun j => (bcell hb).1 b j h2⟩⟩
theorem IsConds.nil (oa : Option Addr) (W : World) : IsConds oa [] W := ⟨fun h => absurd h (Nat.lt_irrefl 0)⟩
/-- A rule's cells lie from o on. -/
structure RuleAt (W : World) (b o : Nat) (r : RL) (oa : Option Addr) (cap : Nat) : Prop where
  k0 : W.cell? ⟨b, o, none⟩ = some (.int .i64 r.nr)
  k1 : W.cell? ⟨b, o + 1, none⟩ = some (.slice oa r.conds.length cap)
  k2 : W.cell? ⟨b, o + 2, none⟩ = some (.int .i64 r.act.kind)
  k3 : W.cell? ⟨b, o + 3, none⟩ = some (.int .i64 r.act.errno)
  conds : IsConds oa r.conds W
  le : r.conds.length ≤ cap
  cap : cap ≤ maxLen
  ok : RlOk r
theorem RuleAt.on {W V : World} {b o : Nat} {r : RL} {oa : Option Addr} {cap : Nat} (h : RuleAt W b o r oa cap) (hw : b < W.heap.size) (hb : Below W.heap.size W V) : RuleAt V b o r oa cap :=
  have hc := fun j => (bcell hb).1 b j hw
  ⟨(hc _).trans h.k0, (hc _).trans h.k1, (hc _).trans h.k2, (hc _).trans h.k3, h.conds.on hb, h.le, h.cap, h.ok⟩
/-- A slice of rules in a world. -/
structure IsRules (oa : Option Addr) (rs : List RL) (W : World) : Prop where
  lie : 0 < rs.length → ∃ b off, oa = some ⟨b, off, none⟩ ∧ b < W.heap.size ∧ ∀ i r, rs[i]? = some r → ∃ ca ccap, RuleAt W b (off + i * 4) r ca ccap
theorem IsRules.on {oa : Option Addr} {rs : List RL} {W V : World} (h : IsRules oa rs W) (hb : Below W.heap.size W V) : IsRules oa rs V :=
  ⟨fun h0 => by
    obtain ⟨b, off, h1, h2, h3⟩ := h.lie h0
    refine ⟨b, off, h1, Nat.lt_of_lt_of_le h2 hb.size, fun i r hi => ?_⟩
    obtain ⟨ca, cc, h4⟩ := h3 i r hi
    exact ⟨ca, cc, h4.on h2 hb⟩⟩
theorem IsRules.nil (oa : Option Addr) (W : World) : IsRules oa [] W := ⟨fun h => absurd h (Nat.lt_irrefl 0)⟩
/-- A policy in a world, by its slice of rules. -/
structure IsPol (oa : Option Addr) (cap : Nat) (p : POL) (W : World) : Prop where
  rules : IsRules oa p.rules W
  le : p.rules.length ≤ cap
  cap : cap ≤ maxLen
  ok : PlOk p
theorem IsPol.on {oa : Option Addr} {cap : Nat} {p : POL} {W V : World} (h : IsPol oa cap p W) (hb : Below W.heap.size W V) : IsPol oa cap p V := ⟨h.rules.on hb, h.le, h.cap, h.ok⟩
end Go.Proofs.Ytphkhfeofoadcab

/- strconv.FormatUint at base 10, by the contracts that FormatInt's stands on. -/
namespace Go.Proofs.Ytphkhfeofoadcab
open Go.RowKit Go.Sort

theorem fin_zero (w : World) (o : Obj) (dk : Array UInt8) (k : Nat) : Below w.heap.size w ((putRow (fun (b : UInt8) => Value.int .u8 (b.toNat : Int)) (w.alloc o) w.heap.size 0 dk).drewN k) := by
  rw [alloc_eq_grow]
  obtain ⟨os', _, e⟩ := putRow_grow_new (fun (b : UInt8) => Value.int .u8 (b.toNat : Int)) w #[o] w.heap.size 0 dk (Nat.le_refl _)
  rw [e]
  exact ⟨rfl, rfl, rfl, by simp [Sort.grow], fun k hk => by simp [Sort.grow, Array.getElem?_append_left hk]⟩

end Go.Proofs.Ytphkhfeofoadcab

/- The walks of glob.pass and glob.step. -/
namespace Go.Proofs.Ytphkhfeofoadcab.Gl
open Go.RowKit
attribute [local go_sem] LA_set LA_get LA_size LA_at

def likeAt (ps : List Part) (i : Nat) : Nat → Bool := (ps.getD i (fun _ => false, false)).1
def manyAt (ps : List Part) (i : Nat) : Bool := (ps.getD i (fun _ => false, false)).2

/-- The parts lie in a block, one behind the other. -/
def PartsIn (w : World) (b : Nat) (ps : List Part) : Prop := b < w.heap.size ∧ (∀ i, i < ps.length → w.cell? ⟨b, i * 257 + 256, none⟩ = some (.bool (manyAt ps i))) ∧ ∀ i c, i < ps.length → c < 256 → w.cell? ⟨b, i * 257 + c, none⟩ = some (.bool (likeAt ps i c))

theorem PartsIn.later {w w' : World} {b : Nat} {ps : List Part} (h : PartsIn w b ps) (hb : Below w.heap.size w w') : PartsIn w' b ps :=
  ⟨Nat.lt_of_lt_of_le h.1 hb.size, fun i hi => by rw [hb.cell (p := ⟨b, _, none⟩) h.1]; exact h.2.1 i hi, fun i c hi hc => by rw [hb.cell (p := ⟨b, _, none⟩) h.1]; exact h.2.2 i c hi hc⟩

theorem flat_get : ∀ (ps : List Part) (i j : Nat), i < ps.length → j < 257 → (flat ps)[i * 257 + j]? = some (.bool (PF (likeAt ps i) (manyAt ps i) j))
  | [], i, j, h, _ => by simp at h
  | p :: ps, 0, j, _, hj => by
    have e : flat (p :: ps) = (LA 257 (PF p.1 p.2)).toList ++ flat ps := by simp [flat]
    rw [e, Nat.zero_mul, Nat.zero_add, List.getElem?_append_left (by simp [LA_size]; exact hj)]
    simpa [likeAt, manyAt] using LA_get 257 (PF p.1 p.2) j hj
  | p :: ps, i + 1, j, h, hj => by
    have e : flat (p :: ps) = (LA 257 (PF p.1 p.2)).toList ++ flat ps := by simp [flat]
    rw [e, List.getElem?_append_right (by simp [LA_size]; omega)]
    have e2 : (i + 1) * 257 + j - (LA 257 (PF p.1 p.2)).toList.length = i * 257 + j := by simp [LA_size]; omega
    rw [e2, flat_get ps i j (by simpa using h) hj]
    rfl

theorem partsIn_of_owns {w : World} {base : Nat} {sv : Value} {ps : List Part} (h : w.ownsRow base 120 257 sv ps.length (flat ps)) (hne : ps ≠ []) : ∃ b cap, sv = .slice (some ⟨b, 0, none⟩) ps.length cap ∧ base ≤ b ∧ PartsIn w b ps := by
  have hn : ps.length ≠ 0 := by simpa using hne
  rcases h.2 with ⟨_, h0⟩ | ⟨g, cap, cur, rfl, hb, hg, _⟩
  · exact absurd h0 hn
  · have hc : ∀ j u, (flat ps)[j]? = some u → w.cell? ⟨g, j, none⟩ = some u := fun j u hu => by
      have := h.cells (g := g) rfl j u hu
      have hadd : (⟨g, 0, none⟩ : Addr).add j = ⟨g, j, none⟩ := by unfold Addr.add; split <;> simp_all
      rwa [hadd] at this
    refine ⟨g, cap, rfl, hb, (Array.getElem?_eq_some_iff.1 hg).1, fun i hi => ?_, fun i c hi hc' => ?_⟩
    · have := hc _ _ (flat_get ps i 256 hi (by omega))
      simpa [PF] using this
    · have := hc _ _ (flat_get ps i c hi (by omega))
      rw [this, PF, if_neg (by omega)]

/-- The places that k parts with no bytes add. -/
def passTo (ps : List Part) (f : Nat → Bool) : Nat → Nat → Bool
  | 0 => f
  | k + 1 => if (passTo ps f k k && manyAt ps k) = true then upd (passTo ps f k) (k + 1) true else passTo ps f k
theorem passTo_yes {ps : List Part} {f : Nat → Bool} {k : Nat} (h1 : passTo ps f k k = true) (h2 : manyAt ps k = true) : passTo ps f (k + 1) = upd (passTo ps f k) (k + 1) true := by rw [passTo, if_pos (by rw [h1, h2]; rfl)]
theorem passTo_no {ps : List Part} {f : Nat → Bool} {k : Nat} (h : (passTo ps f k k && manyAt ps k) = false) : passTo ps f (k + 1) = passTo ps f k := by rw [passTo, if_neg (by rw [h]; simp)]

/-- The places behind one more byte, so far as the loop has come. -/
def stepTo (ps : List Part) (f : Nat → Bool) (b : Nat) : Nat → Nat → Bool
  | 0 => fun _ => false
  | k + 1 => if (f k && likeAt ps k b) = true then (if manyAt ps k = true then upd (stepTo ps f b k) k true else upd (stepTo ps f b k) (k + 1) true) else stepTo ps f b k
theorem stepTo_no {ps : List Part} {f : Nat → Bool} {b k : Nat} (h : (f k && likeAt ps k b) = false) : stepTo ps f b (k + 1) = stepTo ps f b k := by rw [stepTo, if_neg (by rw [h]; simp)]
theorem stepTo_many {ps : List Part} {f : Nat → Bool} {b k : Nat} (h1 : f k = true) (h2 : likeAt ps k b = true) (h3 : manyAt ps k = true) : stepTo ps f b (k + 1) = upd (stepTo ps f b k) k true := by rw [stepTo, if_pos (by rw [h1, h2]; rfl), if_pos h3]
theorem stepTo_one {ps : List Part} {f : Nat → Bool} {b k : Nat} (h1 : f k = true) (h2 : likeAt ps k b = true) (h3 : manyAt ps k = false) : stepTo ps f b (k + 1) = upd (stepTo ps f b k) (k + 1) true := by rw [stepTo, if_pos (by rw [h1, h2]; rfl), if_neg (by rw [h3]; simp)]

end Go.Proofs.Ytphkhfeofoadcab.Gl

/- The walks of glob.Match and glob.Check. -/
namespace Go.Proofs.Ytphkhfeofoadcab.Gl
open Go.RowKit
attribute [local go_sem] LA_set LA_get LA_size LA_at

/-- The places that a text leads to. -/
def runTo (ps : List Part) (s : ByteArray) : Nat → Nat → Bool
  | 0 => passTo ps (fun i => i == 0) ps.length
  | k + 1 => passTo ps (stepTo ps (runTo ps s k) (byteAt s k) ps.length) ps.length
def matchR (p s : ByteArray) : Bool := match parseR p with
  | .inl _ => false
  | .inr ps => runTo ps s s.size ps.length

/-- A call of a Go function, by its contract, as one operation. -/
theorem wp_callOf {P : Program} {o : Oper} {a : Act} {w : World} {K : Act → World → Prop} {Q : Exit → Act → World → Prop} {R : Ending → World → Prop} (f : FuncId) (args : Array Value)
    (hrun : (execOp a.eval o).run P w = .ok (.enter f args) w) (hc : Calls P f args w R) (hk : ∀ e w', R e w' → ∃ v, e = .returned v ∧ K (a.put o.dst v) w') : o.wp P a w K Q := by
  unfold Oper.wp
  rw [hrun, Oper.upon_enter]
  refine hc.mono fun e w' hR => ?_
  obtain ⟨v, rfl, h⟩ := hk e w' hR
  exact h

/-- In a region that draws: one operation alone may come up next, and it bears no guard. -/
theorem wpAny_only {P : Program} {md : Region.Mode} {ops : Array Oper} {Q : Exit → Act → World → Prop} {fuel : Nat} {listed : Array Bool} {a : Act} {w : World} {i : Nat} {o : Oper} (hr : Region.ready md ops listed = [i]) (ho : ops.toList[i]? = some o) (hg : o.guard = none)
    (h : ∀ K : Act → World → Prop, (∀ a w, wpAny P md ops Q fuel (listed.setIfInBounds i true) a w → K a w) → Oper.wp P o a w K Q) : wpAny P md ops Q (fuel + 1) listed a w := by
  refine wpAny_ready hr (by simp) ?_
  refine AllReady.cons (o := o) (by simpa using ho) (fun K hK => ?_) AllReady.nil
  have hw : Region.wanted o (yielded ops a.tmps) = true := by simp [Region.wanted, hg]
  rw [if_pos hw]
  exact h K hK

/-- 'wpAny_take', the operation read off the region's list. -/
theorem wpAny_takeOf {P : Program} {md : Region.Mode} {ops : Array Oper} {Q : Exit → Act → World → Prop} {fuel : Nat} {listed : Array Bool} {a : Act} {w : World} (i : Nat) {o : Oper} (d : Option Tmp) (v : Value) (ho : ops.toList[i]? = some o) (hd : o.dst = d)
    (hs : Region.noSelect ops = true) (hf : Region.free md ops listed i = true) (hr : (Region.ready md ops listed).contains i = true)
    (hQ : ∀ c a w, Q (.panic c) (a.put d v) w → Q (.panic c) a w) (hy : Yields P ops o v a)
    (h : wpAny P md ops Q fuel (listed.setIfInBounds i true) (a.put d v) w) : wpAny P md ops Q (fuel + 1) listed a w := by
  subst hd
  exact wpAny_take (i := i) (oi := o) (by simpa using ho) hs hf hr hQ hy h

theorem partsR_length : ∀ (k : Nat) (p : ByteArray) (a : Nat) (ps : List Part), partsR k p a = some ps → ps.length ≤ p.size - a
  | 0, _, _, _, h => by simp [partsR] at h
  | k + 1, p, a, ps, h => by
    rw [partsR] at h
    split at h
    · rename_i hlt
      split at h
      · simp at h
      · rename_i f m n hF
        cases hr : partsR k p (a + n) with
        | none => rw [hr] at h; simp at h
        | some r =>
          rw [hr] at h
          simp only [Option.map_some, Option.some.injEq] at h
          subst h
          have := partsR_length k p (a + n) r hr
          have hb := firstR_bound (by rw [size_extract]; omega) hF
          rw [size_extract] at hb
          simp only [List.length_cons]
          omega
    · simp only [Option.some.injEq] at h
      subst h
      simp

theorem partsR_pos {p : ByteArray} {ps : List Part} (h : parseR p = .inr ps) : ps ≠ [] ∧ ps.length ≤ 24 := by
  unfold parseR at h
  split at h
  · simp at h
  · split at h
    · simp at h
    · rename_i h24 h0
      cases hq : partsR (p.size + 1) p 0 with
      | none => simp [hq] at h
      | some qs =>
        simp only [hq, Sum.inr.injEq] at h
        subst h
        refine ⟨?_, Nat.le_trans (partsR_length _ _ _ _ hq) (by omega)⟩
        rw [partsR, if_pos (by omega)] at hq
        intro e
        subst e
        split at hq
        · simp at hq
        · cases hr : partsR p.size p (0 + _) with
          | none => rw [hr] at hq; simp at hq
          | some r => rw [hr] at hq; simp at hq

theorem check_any (p : ByteArray) (hz : p.size ≤ 1000) (w : World) :
    Calls Try.prog 47 #[.string p] w fun e w' => e = .returned (match parseR p with | .inl n => .iface 63 (.int .i64 n) | .inr _ => .nilIface) ∧ Below w.heap.size w w' := by
  cases hP : parseR p with
  | inl n =>
    have HP := hide hP
    clear hP
    go_enter Try.func47, Try.ntmps47
    go_wp2_with (go_at_call 52; refine (parse_any p hz _).mono ?_; rw [HP.out]; rintro e W ⟨hW, rfl⟩)
    go_ret
    exact ⟨rfl, hW⟩
  | inr ps =>
    have HP := hide hP
    clear hP
    go_enter Try.func47, Try.ntmps47
    go_wp2_with (go_at_call 52; refine (parse_any p hz _).mono ?_; rw [HP.out]; rintro e W ⟨hW, sv, rfl, hown⟩)
    go_ret
    exact ⟨rfl, hW⟩
end Go.Proofs.Ytphkhfeofoadcab.Gl

/- policy.Check: actions, conds. -/
namespace Go.Proofs.Ytphkhfeofoadcab
open Go.RowKit

theorem ret_err {v : Value} {f : Nat} (k : Nat) (hv : v = errV k) (h : f = k) : Ending.returned v = .returned (errV f) := by rw [hv, h]

theorem kindOf_any (op : Int) (w : World) : Calls Try.prog 40 #[.int .i64 op] w fun e w' => e = .returned (.int .i64 (kindOp op : Nat)) ∧ w' = w := by
  go_enter Try.func40, Try.ntmps40
  go_wp2
  all_goals
    go_ret
    refine ⟨ret_int ?_, rfl⟩
    simp_all [kindOp]

theorem checkAction_any (a : ACT) (w : World) : Calls Try.prog 22 #[actV a] w fun e w' => e = .returned (errV (actF a)) ∧ Below w.heap.size w w' := by
  obtain ⟨k, e⟩ := a
  unfold actV
  simp only
  go_enter Try.func22, Try.ntmps22
  go_wp2
  all_goals
    go_ret
    refine ⟨?_, box_below _ _⟩
  all_goals first
    | (refine ret_err 0 rfl ?_; simp_all [actF]; done)
    | (refine ret_err 1 rfl ?_; simp_all [actF]; done)
    | (refine ret_err 3 rfl ?_; simp_all [actF]; done)
    | (refine ret_err 0 rfl ?_; simp [actF, *]; omega)
    | (refine ret_err 1 rfl ?_; simp [actF, *]; omega)
    | (refine ret_err 3 rfl ?_; simp [actF, *]; omega)
end Go.Proofs.Ytphkhfeofoadcab

/- policy.Check: what a cond's op does not use. -/
namespace Go.Proofs.Ytphkhfeofoadcab
open Go.RowKit

set_option maxHeartbeats 4000000 in
set_option maxRecDepth 100000 in
theorem hasUnused_seven (arg vi mi ii b lo hi : Int) (g : ByteArray) (w : World) : Calls Try.prog 46 #[.agg #[.int .i64 arg, .int .i64 7, .int .u64 vi, .int .u64 mi, .string g, .int .u32 ii, .int .i64 b, .int .i64 lo, .int .i64 hi]] w fun e w' => (∃ z, e = .returned (.bool z) ∧ (z = true ↔ g.toList ≠ [] ∨ ¬ (ii = 0 ∧ b = 0 ∧ lo = 0 ∧ hi = 0))) ∧ Below w.heap.size w w' := by
  have HK : ∀ w, Calls Try.prog 40 #[.int .i64 7] w fun e w' => e = .returned (.int .i64 1) ∧ w' = w := fun w => by
    have h := kindOf_any 7 w
    rwa [show ((kindOp 7 : Nat) : Int) = 1 by simp [kindOp]] at h
  go_enter Try.func46, Try.ntmps46
  go_wp2_with (go_at_call 40; refine (HK _).mono ?_; rintro e w' ⟨rfl, rfl⟩)
  all_goals
    go_ret
    refine ⟨⟨_, rfl, ?_⟩, box_below _ _⟩
  all_goals
    clear HK
    first
    | (simp_all; done)
    | (simp_all; omega)
set_option maxHeartbeats 4000000 in
set_option maxRecDepth 100000 in
theorem hasUnused_eight (arg vi mi ii b lo hi : Int) (g : ByteArray) (w : World) : Calls Try.prog 46 #[.agg #[.int .i64 arg, .int .i64 8, .int .u64 vi, .int .u64 mi, .string g, .int .u32 ii, .int .i64 b, .int .i64 lo, .int .i64 hi]] w fun e w' => (∃ z, e = .returned (.bool z) ∧ (z = true ↔ mi ≠ 0 ∨ vi ≠ 0 ∨ ¬ (ii = 0 ∧ b = 0 ∧ lo = 0 ∧ hi = 0))) ∧ Below w.heap.size w w' := by
  have HK : ∀ w, Calls Try.prog 40 #[.int .i64 8] w fun e w' => e = .returned (.int .i64 2) ∧ w' = w := fun w => by
    have h := kindOf_any 8 w
    rwa [show ((kindOp 8 : Nat) : Int) = 2 by simp [kindOp]] at h
  go_enter Try.func46, Try.ntmps46
  go_wp2_with (go_at_call 40; refine (HK _).mono ?_; rintro e w' ⟨rfl, rfl⟩)
  all_goals
    go_ret
    refine ⟨⟨_, rfl, ?_⟩, box_below _ _⟩
  all_goals
    clear HK
    first
    | (simp_all; done)
    | (simp_all; omega)
set_option maxHeartbeats 4000000 in
set_option maxRecDepth 100000 in
theorem hasUnused_nine (arg vi mi ii b lo hi : Int) (g : ByteArray) (w : World) : Calls Try.prog 46 #[.agg #[.int .i64 arg, .int .i64 9, .int .u64 vi, .int .u64 mi, .string g, .int .u32 ii, .int .i64 b, .int .i64 lo, .int .i64 hi]] w fun e w' => (∃ z, e = .returned (.bool z) ∧ (z = true ↔ mi ≠ 0 ∨ vi ≠ 0 ∨ g.toList ≠ [])) ∧ Below w.heap.size w w' := by
  have HK : ∀ w, Calls Try.prog 40 #[.int .i64 9] w fun e w' => e = .returned (.int .i64 3) ∧ w' = w := fun w => by
    have h := kindOf_any 9 w
    rwa [show ((kindOp 9 : Nat) : Int) = 3 by simp [kindOp]] at h
  go_enter Try.func46, Try.ntmps46
  go_wp2_with (go_at_call 40; refine (HK _).mono ?_; rintro e w' ⟨rfl, rfl⟩)
  all_goals
    go_ret
    refine ⟨⟨_, rfl, ?_⟩, box_below _ _⟩
  all_goals
    clear HK
    first
    | (simp_all; done)
    | (simp_all; omega)
set_option maxHeartbeats 4000000 in
set_option maxRecDepth 100000 in
theorem hasUnused_num (arg op vi mi ii b lo hi : Int) (g : ByteArray) (h7 : ¬ op = 7) (h8 : ¬ op = 8) (h9 : ¬ op = 9) (w : World) : Calls Try.prog 46 #[.agg #[.int .i64 arg, .int .i64 op, .int .u64 vi, .int .u64 mi, .string g, .int .u32 ii, .int .i64 b, .int .i64 lo, .int .i64 hi]] w fun e w' => (∃ z, e = .returned (.bool z) ∧ (z = true ↔ mi ≠ 0 ∨ g.toList ≠ [] ∨ ¬ (ii = 0 ∧ b = 0 ∧ lo = 0 ∧ hi = 0))) ∧ Below w.heap.size w w' := by
  have HK : ∀ w, Calls Try.prog 40 #[.int .i64 op] w fun e w' => e = .returned (.int .i64 1) ∧ w' = w := fun w => by
    have h := kindOf_any op w
    rwa [show ((kindOp op : Nat) : Int) = 1 by simp [kindOp, h8, h9]] at h
  go_enter Try.func46, Try.ntmps46
  go_wp2_with (go_at_call 40; refine (HK _).mono ?_; rintro e w' ⟨rfl, rfl⟩)
  all_goals
    go_ret
    refine ⟨⟨_, rfl, ?_⟩, box_below _ _⟩
  all_goals
    clear HK
    first
    | (simp_all; done)
    | (simp_all; omega)
theorem toList_nil (g : ByteArray) : g.toList = [] ↔ g.size = 0 := by
  rw [Lib.toList_data, Lib.size_eq, List.length_eq_zero_iff]
theorem hasUnused_any (c : CD) (w : World) : Calls Try.prog 46 #[condV c] w fun e w' => e = .returned (.bool (decide (unusedP c))) ∧ Below w.heap.size w w' := by
  obtain ⟨arg, op, v, m, g, ⟨ip, b, lo, hi⟩⟩ := c
  have hg := toList_nil g
  by_cases h7 : op = 7
  · subst h7
    refine (hasUnused_seven arg v m ip b lo hi g w).mono ?_
    rintro e w' ⟨⟨z, rfl, hz⟩, hb⟩
    refine ⟨ret_bool ?_, hb⟩
    rw [Bool.eq_iff_iff, hz, decide_eq_true_iff]
    simp only [unusedP, netZ, hg, ne_eq, Int.natCast_eq_zero]
    by_cases x1 : m = 0 <;> by_cases x2 : v = 0 <;> by_cases x3 : g.size = 0 <;> by_cases x4 : (ip = 0 ∧ b = 0 ∧ lo = 0 ∧ hi = 0) <;> simp [*]
  by_cases h8 : op = 8
  · subst h8
    refine (hasUnused_eight arg v m ip b lo hi g w).mono ?_
    rintro e w' ⟨⟨z, rfl, hz⟩, hb⟩
    refine ⟨ret_bool ?_, hb⟩
    rw [Bool.eq_iff_iff, hz, decide_eq_true_iff]
    simp only [unusedP, netZ, ne_eq, Int.natCast_eq_zero]
    by_cases x1 : m = 0 <;> by_cases x2 : v = 0 <;> by_cases x4 : (ip = 0 ∧ b = 0 ∧ lo = 0 ∧ hi = 0) <;> simp [*]
  by_cases h9 : op = 9
  · subst h9
    refine (hasUnused_nine arg v m ip b lo hi g w).mono ?_
    rintro e w' ⟨⟨z, rfl, hz⟩, hb⟩
    refine ⟨ret_bool ?_, hb⟩
    rw [Bool.eq_iff_iff, hz, decide_eq_true_iff]
    simp only [unusedP, netZ, hg, ne_eq, Int.natCast_eq_zero]
    by_cases x1 : m = 0 <;> by_cases x2 : v = 0 <;> by_cases x3 : g.size = 0 <;> by_cases x4 : (ip = 0 ∧ b = 0 ∧ lo = 0 ∧ hi = 0) <;> simp [*]
  · refine (hasUnused_num arg op v m ip b lo hi g h7 h8 h9 w).mono ?_
    rintro e w' ⟨⟨z, rfl, hz⟩, hb⟩
    refine ⟨ret_bool ?_, hb⟩
    rw [Bool.eq_iff_iff, hz, decide_eq_true_iff]
    simp only [unusedP, netZ, hg, ne_eq, Int.natCast_eq_zero]
    by_cases x1 : m = 0 <;> by_cases x2 : v = 0 <;> by_cases x3 : g.size = 0 <;> by_cases x4 : (ip = 0 ∧ b = 0 ∧ lo = 0 ∧ hi = 0) <;> simp [*]
end Go.Proofs.Ytphkhfeofoadcab

/- api.Forms. -/
namespace Go.Proofs.Ytphkhfeofoadcab
open Go.RowKit

def formsArr : Array Value := #[.string ⟨#[114, 101, 97, 100]⟩, .int .i64 1, .int .i64 1, .int .i64 0, .int .i64 0, .string ⟨#[119, 114, 105, 116, 101]⟩, .int .i64 1, .int .i64 1, .int .i64 0, .int .i64 0, .string ⟨#[111, 112, 101, 110]⟩, .int .i64 2, .int .i64 1, .int .i64 1, .int .i64 0, .string ⟨#[99, 108, 111, 115, 101]⟩, .int .i64 1, .int .i64 0, .int .i64 0, .int .i64 0, .string ⟨#[115, 116, 97, 116]⟩, .int .i64 2, .int .i64 0, .int .i64 0, .int .i64 0, .string ⟨#[114, 101, 110, 97, 109, 101]⟩, .int .i64 2, .int .i64 2, .int .i64 0, .int .i64 0, .string ⟨#[99, 111, 110, 110, 101, 99, 116]⟩, .int .i64 1, .int .i64 3, .int .i64 0, .int .i64 0, .string ⟨#[108, 105, 110, 107]⟩, .int .i64 2, .int .i64 2, .int .i64 1, .int .i64 0, .string ⟨#[115, 101, 110, 100]⟩, .int .i64 1, .int .i64 1, .int .i64 3, .int .i64 1]

set_option maxRecDepth 100000 in
set_option maxHeartbeats 2000000 in
theorem forms_any (w : World) :
    Calls Try.prog 34 #[] w fun e w' => e = .returned (.agg formsArr) ∧ Below w.heap.size w w' := by
  go_enter Try.func34, Try.ntmps34
  go_wp2_with (first | (refine wpList_buildTo rfl 92 _ rfl (some 19) rfl formsArr (by kernel_rfl) ?_) | (refine wpList_store_row rfl 92 _ _ rfl w.heap.size formsArr rfl rfl 92 _ (heap_alloc_new _ _) (by kernel_rfl) (by kernel_rfl) (by kernel_rfl) ?_))
  rw [World.setRow_alloc_new]
  exact bodyPost_ret (v := .agg formsArr) (results_cell_row rfl _ _ w.heap.size 92 formsArr (0, 0) _ rfl (heap_alloc_new _ _) Try.underlying92 rfl (by kernel_rfl)) rfl ⟨rfl, (Below.refl _ _).alloc (Nat.le_refl _) _⟩

def kindsV (nr : Nat) : Value := .agg #[.int .i64 (kindAt nr 0 : Nat), .int .i64 (kindAt nr 1 : Nat), .int .i64 (kindAt nr 2 : Nat), .int .i64 (kindAt nr 3 : Nat)]
def formV (nr : Nat) : Value := .agg #[.string ⟨(nameOf nr).toArray⟩, .int .i64 (kindAt nr 0 : Nat), .int .i64 (kindAt nr 1 : Nat), .int .i64 (kindAt nr 2 : Nat), .int .i64 (kindAt nr 3 : Nat)]
theorem forms_index (nr : Nat) (h : nr ≤ 8) (w : World) : (Instr.index 92 (.agg formsArr) (.int .i64 nr)).run Try.prog w = .ok (formV nr) w := by
  rcases nine h with rfl | rfl | rfl | rfl | rfl | rfl | rfl | rfl | rfl <;> kernel_rfl
theorem form_kinds (nr : Nat) (w : World) : (Instr.field 91 (formV nr) 1).run Try.prog w = .ok (kindsV nr) w := by kernel_rfl
theorem form_name (nr : Nat) (w : World) : (Instr.field 91 (formV nr) 0).run Try.prog w = .ok (.string ⟨(nameOf nr).toArray⟩) w := by kernel_rfl
end Go.Proofs.Ytphkhfeofoadcab

/- The document's fault of a net. -/
namespace Go.Proofs.Ytphkhfeofoadcab
open Go.RowKit

theorem restN_succ (k : Nat) (hk : k < 32) : restN k = restN (k + 1) * 2 := by
  unfold restN
  rw [show 32 - k = (32 - (k + 1)) + 1 by omega, Nat.pow_succ]
theorem restN_bit (k : Nat) : 2 ^ (31 - k) = restN (k + 1) := by unfold restN; rw [show 31 - k = 32 - (k + 1) by omega]
theorem rest_step (ip k : Nat) (hk : k < 32) : ip % restN k = ip % restN (k + 1) + restN (k + 1) * (ip / 2 ^ (31 - k) % 2) := by
  rw [restN_succ k hk, Nat.mod_mul, restN_bit]
theorem quot_step (ip k : Nat) (hk : k < 32) : ip / restN (k + 1) = 2 * (ip / restN k) + ip / 2 ^ (31 - k) % 2 := by
  rw [restN_succ k hk, restN_bit, ← Nat.div_div_eq_div_mul]
  omega
theorem quot_down (x y : Nat) : ∀ j k, k + j ≤ 32 → x / restN (k + j) = y / restN (k + j) → x / restN k = y / restN k
  | 0, _, _, h => h
  | j + 1, k, hk, h => by
    have h' : x / restN (k + 1) = y / restN (k + 1) := quot_down x y j (k + 1) (by omega) (by rw [show k + 1 + j = k + (j + 1) by omega]; exact h)
    rw [quot_step x k (by omega), quot_step y k (by omega)] at h'
    omega

theorem netFault_any (ip : Nat) (hip : ip < 4294967296) (b lo hi : Int) (hb : -9223372036854775808 ≤ b ∧ b ≤ 9223372036854775807) (hl : -9223372036854775808 ≤ lo ∧ lo ≤ 9223372036854775807) (hh : -9223372036854775808 ≤ hi ∧ hi ≤ 9223372036854775807) (w : World) :
    Calls Try.prog 33 #[netV ip b lo hi] w fun e w' => e = .returned (.int .i64 (faultOf ip b lo hi)) ∧ Below w.heap.size w w' := by
  by_cases c0 : b < 0
  · have HF := hide (show faultOf ip b lo hi = 1 by unfold faultOf; rw [if_pos (by omega)])
    have d0 : decide (b < 0) = true := decide_eq_true c0
    go_enter Try.func33, Try.ntmps33
    go_wp2
    go_ret
    exact ⟨by rw [HF.out]; rfl, (Below.refl _ _).alloc (Nat.le_refl _) _⟩
  · have d0 : decide (b < 0) = false := decide_eq_false c0
    by_cases c1 : 32 < b
    · have HF := hide (show faultOf ip b lo hi = 1 by unfold faultOf; rw [if_pos (by omega)])
      have d1 : decide ((32 : Int) < b) = true := decide_eq_true c1
      go_enter Try.func33, Try.ntmps33
      go_wp2
      go_ret
      exact ⟨by rw [HF.out]; rfl, (Below.refl _ _).alloc (Nat.le_refl _) _⟩
    · have d1 : decide ((32 : Int) < b) = false := decide_eq_false c1
      by_cases c2 : lo < 0
      · have HF := hide (show faultOf ip b lo hi = 1 by unfold faultOf; rw [if_pos (by omega)])
        have d2 : decide (lo < 0) = true := decide_eq_true c2
        go_enter Try.func33, Try.ntmps33
        go_wp2
        go_ret
        exact ⟨by rw [HF.out]; rfl, (Below.refl _ _).alloc (Nat.le_refl _) _⟩
      · have d2 : decide (lo < 0) = false := decide_eq_false c2
        by_cases c3 : 65535 < hi
        · have HF := hide (show faultOf ip b lo hi = 1 by unfold faultOf; rw [if_pos (by omega)])
          have d3 : decide ((65535 : Int) < hi) = true := decide_eq_true c3
          go_enter Try.func33, Try.ntmps33
          go_wp2
          go_ret
          exact ⟨by rw [HF.out]; rfl, (Below.refl _ _).alloc (Nat.le_refl _) _⟩
        · have d3 : decide ((65535 : Int) < hi) = false := decide_eq_false c3
          by_cases c4 : hi < lo
          · have HF := hide (show faultOf ip b lo hi = 1 by unfold faultOf; rw [if_pos (by omega)])
            have d4 : decide (hi < lo) = true := decide_eq_true c4
            go_enter Try.func33, Try.ntmps33
            go_wp2
            go_ret
            exact ⟨by rw [HF.out]; rfl, (Below.refl _ _).alloc (Nat.le_refl _) _⟩
          · have d4 : decide (hi < lo) = false := decide_eq_false c4
            obtain ⟨k0, rfl⟩ : ∃ k : Nat, b = k := ⟨b.toNat, by omega⟩
            have hk : k0 ≤ 32 := by omega
            have HF := hide (show faultOf ip (k0 : Int) lo hi = if ip % restN k0 = 0 then 0 else 3 by unfold faultOf; rw [if_neg (by omega), Int.toNat_natCast])
            go_enter Try.func33, Try.ntmps33
            go_wp2
            go_loop [3] (fun i => ∃ k : Nat, k0 ≤ k ∧ k ≤ 32 ∧ i = .int .i64 k ∧ Hid (ip % restN k0 = ip % restN k)) (fun i => 32 - (intOf i).toNat)
            case atStart => exact ⟨k0, Nat.le_refl _, hk, rfl, hide rfl⟩
            case round =>
              obtain ⟨k, hk1, hk2, rfl, HI⟩ := hrel
              by_cases hlt : k < 32
              · have HS := hide (rest_step ip k hlt)
                by_cases c : ip / 2 ^ (31 - k) % 2 = 1
                · have HB := hide (show (ip / 2 ^ (31 - k) % 2 == 1) = true by rw [beq_iff_eq]; exact c)
                  have HV := hide (show faultOf ip (k0 : Int) lo hi = 3 by
                    rw [HF.out, HI.out, HS.out, c, if_neg]
                    have := restN_pos (k + 1)
                    omega)
                  clear c
                  go_wp2_with (go_at_call 45; refine (bit_any ip k hip (by omega) _).mono ?_; rw [HB.out]; rintro e wx ⟨rfl, hwx⟩; rw [hwx]; clear hwx wx)
                  go_ret
                  exact ⟨by rw [HV.out]; rfl, (Below.refl _ _).alloc (Nat.le_refl _) _⟩
                · have HB := hide (show (ip / 2 ^ (31 - k) % 2 == 1) = false by rw [beq_eq_false_iff_ne]; exact c)
                  have HN := hide (show ip % restN k0 = ip % restN (k + 1) by
                    rw [HI.out, HS.out, show ip / 2 ^ (31 - k) % 2 = 0 by omega]
                    rfl)
                  clear c
                  go_wp2_with (go_at_call 45; refine (bit_any ip k hip (by omega) _).mono ?_; rw [HB.out]; rintro e wx ⟨rfl, hwx⟩; rw [hwx]; clear hwx wx)
                  go_round
                  case rel => exact ⟨k + 1, by omega, by omega, by go_num, HN⟩
                  case measure => simp [intOf]; omega
              · obtain rfl : k = 32 := by omega
                have HV := hide (show faultOf ip (k0 : Int) lo hi = 0 by
                  rw [HF.out, HI.out, if_pos]
                  rw [show restN 32 = 1 from rfl]
                  exact Nat.mod_one ip)
                go_wp2
                go_ret
                exact ⟨by rw [HV.out]; rfl, (Below.refl _ _).alloc (Nat.le_refl _) _⟩
end Go.Proofs.Ytphkhfeofoadcab

/- What a net has: the code's and the document's. -/
namespace Go.Proofs.Ytphkhfeofoadcab
open Go.RowKit

def hasOf (ip : Nat) (b lo hi : Int) (x : Nat) (port : Int) : Bool := decide (faultOf ip b lo hi = 0) && (decide (x / restN b.toNat = ip / restN b.toNat) && (decide (lo ≤ port) && decide (port ≤ hi)))

/-- The cells of a net that was boxed, behind what left all older blocks. -/
theorem box_cells {w W : World} {ip : Nat} {b lo hi : Int} (hW : Below (w.heap.size + 1) (w.alloc (.cells #[.int .u32 ip, .int .i64 b, .int .i64 lo, .int .i64 hi] 60)) W) :
    W.cell? ⟨w.heap.size, 0, none⟩ = some (.int .u32 ip) ∧ W.cell? ⟨w.heap.size, 1, none⟩ = some (.int .i64 b) ∧ W.cell? ⟨w.heap.size, 2, none⟩ = some (.int .i64 lo) ∧ W.cell? ⟨w.heap.size, 3, none⟩ = some (.int .i64 hi) := by
  have hc : ∀ o, W.cell? ⟨w.heap.size, o, none⟩ = (#[.int .u32 ip, .int .i64 b, .int .i64 lo, .int .i64 hi] : Array Value)[o]? := fun o => by
    rw [hW.cell (p := ⟨w.heap.size, o, none⟩) (Nat.lt_succ_self _)]
    exact World.cell?_alloc_at _ _ _ _ rfl
  exact ⟨hc 0, hc 1, hc 2, hc 3⟩

end Go.Proofs.Ytphkhfeofoadcab

/- What a net has: addr.Has. -/
namespace Go.Proofs.Ytphkhfeofoadcab
open Go.RowKit Go.Sort

/-- The world with a net boxed, and what is called in worlds that grew out of it. -/
theorem boxed (w : World) (ip : Nat) (b lo hi : Int) : ∃ V, V = w.alloc (.cells #[.int .u32 ip, .int .i64 b, .int .i64 lo, .int .i64 hi] 60) ∧ Below w.heap.size w V ∧
    V.cell? ⟨w.heap.size, 0, none⟩ = some (.int .u32 ip) ∧ V.cell? ⟨w.heap.size, 1, none⟩ = some (.int .i64 b) ∧ V.cell? ⟨w.heap.size, 2, none⟩ = some (.int .i64 lo) ∧ V.cell? ⟨w.heap.size, 3, none⟩ = some (.int .i64 hi) :=
  ⟨_, rfl, (Below.refl _ _).alloc (Nat.le_refl _) _, box_cells (Below.refl _ _)⟩
theorem regrown_same {P : Program} {f : FuncId} {args : Array Value} {V : World} {d : Nat} {os : Array Obj} {v : Value}
    (h : Calls P f args (grow (redrawn V d) os) fun e w' => e = .returned v ∧ w' = grow (redrawn V d) os) : Calls P f args (grow (redrawn V d) os) fun e w'' => e = .returned v ∧ ∃ p : Regrown, w'' = grow (redrawn V p.d) p.os :=
  h.mono fun _ _ ⟨he, hw⟩ => ⟨he, ⟨d, os⟩, hw⟩

end Go.Proofs.Ytphkhfeofoadcab

/- policy.Check: conds. -/
namespace Go.Proofs.Ytphkhfeofoadcab
open Go.RowKit Go.Sort

theorem two_box (w : World) (x y : Array Value) (tx ty : TypeId) : ∃ V, V = (w.alloc (.cells x tx)).alloc (.cells y ty) ∧ Below w.heap.size w V ∧ (∀ j : Nat, V.cell? ⟨w.heap.size, j, none⟩ = x[j]?) ∧ (∀ j : Nat, V.cell? ⟨w.heap.size + 1, j, none⟩ = y[j]?) := by
  refine ⟨_, rfl, below_next (box_below w _) (box_below _ _), fun j => ?_, fun j => ?_⟩
  · rw [((bcell (box_below (w.alloc (.cells x tx)) (.cells y ty))).1 w.heap.size j (by rw [World.size_alloc]; omega)), World.cell?_alloc_new]
  · have h := World.cell?_alloc_new (w.alloc (.cells x tx)) y ty j
    rwa [World.size_alloc] at h

/-- glob.Check at any pattern. -/
theorem gparse_big (p : ByteArray) (h : 24 < p.size) (w : World) : Calls Try.prog 52 #[.string p] w fun e w' => e = .returned (.tuple #[.slice none 0 0, .iface 63 (.int .i64 2)]) ∧ Below w.heap.size w w' := by
  go_enter Try.func52, Try.ntmps52
  go_wp2
  go_ret2
  exact ⟨rfl, Below.refl _ _⟩
theorem gcheck_any (p : ByteArray) (w : World) : Calls Try.prog 47 #[.string p] w fun e w' => e = .returned (errV (globF p)) ∧ Below w.heap.size w w' := by
  by_cases h : 24 < p.size
  · have HE := hide (show errV (globF p) = .iface 63 (.int .i64 2) by
      unfold globF Gl.parseR
      rw [if_pos h]
      rfl)
    go_enter Try.func47, Try.ntmps47
    go_wp2_with (go_at_call 52; refine (gparse_big p h _).mono ?_; rintro e W ⟨rfl, hW⟩)
    go_ret
    exact ⟨by rw [HE.out]; rfl, hW⟩
  · refine (Gl.check_any p (by omega) w).mono ?_
    rintro e w' ⟨rfl, hb⟩
    refine ⟨?_, hb⟩
    unfold globF errV
    cases hp : Gl.parseR p with
    | inr ps => rfl
    | inl n =>
      have hn : n ≠ 0 := by
        unfold Gl.parseR at hp
        repeat' split at hp
        all_goals simp at hp
        all_goals omega
      simp only
      rw [if_neg hn]

theorem checkCond_bound (c : CD) (kv : Array Value) (w : World) (h : c.arg < 0 ∨ 3 < c.arg ∨ c.op < 1 ∨ 9 < c.op) : Calls Try.prog 35 #[condV c, .agg kv] w fun e w' => e = .returned (errV 1) ∧ Below w.heap.size w w' := by
  obtain ⟨arg, op, v, m, g, ⟨ip, b, lo, hi⟩⟩ := c
  unfold condV
  simp only at h ⊢
  go_enter Try.func35, Try.ntmps35
  go_wp2
  all_goals first
    | omega
    | (go_ret
       exact ⟨rfl, below_next (box_below _ _) (box_below _ _)⟩)

theorem kinds_at (nr a : Nat) (h : a ≤ 3) : (#[.int .i64 (kindAt nr 0 : Nat), .int .i64 (kindAt nr 1 : Nat), .int .i64 (kindAt nr 2 : Nat), .int .i64 (kindAt nr 3 : Nat)] : Array Value)[a]? = some (.int .i64 (kindAt nr a : Nat)) := by
  rcases (by omega : a = 0 ∨ a = 1 ∨ a = 2 ∨ a = 3) with rfl | rfl | rfl | rfl <;> rfl
end Go.Proofs.Ytphkhfeofoadcab

/- policy.Check: conds, behind their bounds. -/
namespace Go.Proofs.Ytphkhfeofoadcab
open Go.RowKit Go.Sort

set_option maxHeartbeats 4000000 in
theorem checkCond_kind (nr a : Nat) (ha : a ≤ 3) (op : Int) (v m : Nat) (g : ByteArray) (ip : Nat) (b lo hi : Int) (h1 : ¬ op < 1) (h9 : ¬ 9 < op) (w : World) (h : kindAt nr a ≠ kindOp op) :
    Calls Try.prog 35 #[condV ⟨a, op, v, m, g, ⟨ip, b, lo, hi⟩⟩, kindsV nr] w fun e w' => e = .returned (errV 3) ∧ Below w.heap.size w w' := by
  have HU := fun w => hasUnused_any ⟨a, op, v, m, g, ⟨ip, b, lo, hi⟩⟩ w
  obtain ⟨u, hu⟩ : ∃ u, u = decide (unusedP ⟨a, op, v, m, g, ⟨ip, b, lo, hi⟩⟩) := ⟨_, rfl⟩
  rw [← hu] at HU
  obtain ⟨ko, hko⟩ : ∃ k : Int, k = (kindOp op : Nat) := ⟨_, rfl⟩
  have HK := fun w => kindOf_any op w
  rw [← hko] at HK
  obtain ⟨ka, hka⟩ : ∃ k : Int, k = (kindAt nr a : Nat) := ⟨_, rfl⟩
  have hat := kinds_at nr a ha
  rw [← hka] at hat
  have hne : (ka != ko) = true := by rw [hka, hko, bne_iff_ne]; omega
  clear hu hko hka h
  unfold kindsV condV at *
  simp only at *
  have i1 : ¬ (a : Int) < 0 := by omega
  have i2 : ¬ (4 : Int) ≤ a := by omega
  have i3 : (0 : Int) ≤ a := by omega
  have i4 : (a : Int) < 4 := by omega
  go_enter Try.func35, Try.ntmps35
  go_wp2
  obtain ⟨V, hV, hB, hx, hy⟩ := two_box w #[.int .i64 a, .int .i64 op, .int .u64 v, .int .u64 m, .string g, .int .u32 ip, .int .i64 b, .int .i64 lo, .int .i64 hi] #[.int .i64 (kindAt nr 0 : Nat), .int .i64 (kindAt nr 1 : Nat), .int .i64 (kindAt nr 2 : Nat), .int .i64 (kindAt nr 3 : Nat)] 62 89
  rw [← hV]
  clear hV
  have HB := hide hB
  clear hB
  have g0 := cell_regrown (hx 0)
  have g1 := cell_regrown (hx 1)
  have g2 := cell_regrown (hx 2)
  have g3 := cell_regrown (hx 3)
  have g4 := cell_regrown (hx 4)
  have g5 := cell_regrown (hx 5)
  have g6 := cell_regrown (hx 6)
  have g7 := cell_regrown (hx 7)
  have g8 := cell_regrown (hx 8)
  have gk := cell_regrown ((hy a).trans hat)
  have cK : ∀ d os, Calls Try.prog 40 #[.int .i64 op] (grow (redrawn V d) os) fun e w'' => e = .returned (.int .i64 ko) ∧ ∃ p : Regrown, w'' = grow (redrawn V p.d) p.os := fun d os => regrown_same (HK _)
  have cU : ∀ d os, Calls Try.prog 46 #[.agg #[.int .i64 a, .int .i64 op, .int .u64 v, .int .u64 m, .string g, .int .u32 ip, .int .i64 b, .int .i64 lo, .int .i64 hi]] (grow (redrawn V d) os) fun e w'' => e = .returned (.bool u) ∧ ∃ p : Regrown, w'' = grow (redrawn V p.d) p.os := fun d os => Calls.regrown_of (HU _)
  clear hx hy hat HU HK
  refine wp_region_quiet_below (by kernel_rfl) (by kernel_rfl) ?_
  repeat (go_big_quiet_step (first | (go_at_call 40; exact cK _ _) | (go_at_call 46; exact cU _ _)))
  refine wpQuiet_nil ?_
  intro _ hw'
  obtain ⟨⟨dq, osq⟩, hw''⟩ := hw'
  subst hw''
  go_wp2
  go_ret
  exact ⟨rfl, HB.out.trans ((below_regrown V dq osq).mono HB.out.size)⟩

set_option maxHeartbeats 4000000 in
theorem checkCond_unused (nr a : Nat) (ha : a ≤ 3) (op : Int) (v m : Nat) (g : ByteArray) (ip : Nat) (b lo hi : Int) (h1 : ¬ op < 1) (h9 : ¬ 9 < op) (w : World) (hk : kindAt nr a = kindOp op) (h : unusedP ⟨a, op, v, m, g, ⟨ip, b, lo, hi⟩⟩) :
    Calls Try.prog 35 #[condV ⟨a, op, v, m, g, ⟨ip, b, lo, hi⟩⟩, kindsV nr] w fun e w' => e = .returned (errV 3) ∧ Below w.heap.size w w' := by
  have HU := fun w => hasUnused_any ⟨a, op, v, m, g, ⟨ip, b, lo, hi⟩⟩ w
  obtain ⟨u, hu⟩ : ∃ u, u = decide (unusedP ⟨a, op, v, m, g, ⟨ip, b, lo, hi⟩⟩) := ⟨_, rfl⟩
  rw [← hu] at HU
  obtain ⟨ko, hko⟩ : ∃ k : Int, k = (kindOp op : Nat) := ⟨_, rfl⟩
  have HK := fun w => kindOf_any op w
  rw [← hko] at HK
  obtain ⟨ka, hka⟩ : ∃ k : Int, k = (kindAt nr a : Nat) := ⟨_, rfl⟩
  have hat := kinds_at nr a ha
  rw [← hka] at hat
  have hne : ko = ka := by rw [hka, hko, hk]
  subst hne
  have hut : u = true := by rw [hu]; exact decide_eq_true h
  subst hut
  clear hu hko hka h hk
  have hnn : (ko != ko) = false := by simp
  unfold kindsV condV at *
  simp only at *
  have i1 : ¬ (a : Int) < 0 := by omega
  have i2 : ¬ (4 : Int) ≤ a := by omega
  have i3 : (0 : Int) ≤ a := by omega
  have i4 : (a : Int) < 4 := by omega
  go_enter Try.func35, Try.ntmps35
  go_wp2
  obtain ⟨V, hV, hB, hx, hy⟩ := two_box w #[.int .i64 a, .int .i64 op, .int .u64 v, .int .u64 m, .string g, .int .u32 ip, .int .i64 b, .int .i64 lo, .int .i64 hi] #[.int .i64 (kindAt nr 0 : Nat), .int .i64 (kindAt nr 1 : Nat), .int .i64 (kindAt nr 2 : Nat), .int .i64 (kindAt nr 3 : Nat)] 62 89
  rw [← hV]
  clear hV
  have HB := hide hB
  clear hB
  have g0 := cell_regrown (hx 0)
  have g1 := cell_regrown (hx 1)
  have g2 := cell_regrown (hx 2)
  have g3 := cell_regrown (hx 3)
  have g4 := cell_regrown (hx 4)
  have g5 := cell_regrown (hx 5)
  have g6 := cell_regrown (hx 6)
  have g7 := cell_regrown (hx 7)
  have g8 := cell_regrown (hx 8)
  have gk := cell_regrown ((hy a).trans hat)
  have cK : ∀ d os, Calls Try.prog 40 #[.int .i64 op] (grow (redrawn V d) os) fun e w'' => e = .returned (.int .i64 ko) ∧ ∃ p : Regrown, w'' = grow (redrawn V p.d) p.os := fun d os => regrown_same (HK _)
  have cU : ∀ d os, Calls Try.prog 46 #[.agg #[.int .i64 a, .int .i64 op, .int .u64 v, .int .u64 m, .string g, .int .u32 ip, .int .i64 b, .int .i64 lo, .int .i64 hi]] (grow (redrawn V d) os) fun e w'' => e = .returned (.bool true) ∧ ∃ p : Regrown, w'' = grow (redrawn V p.d) p.os := fun d os => Calls.regrown_of (HU _)
  clear hx hy hat HU HK
  refine wp_region_quiet_below (by kernel_rfl) (by kernel_rfl) ?_
  repeat (go_big_quiet_step (first | (go_at_call 40; exact cK _ _) | (go_at_call 46; exact cU _ _)))
  refine wpQuiet_nil ?_
  intro _ hw'
  obtain ⟨⟨dq, osq⟩, hw''⟩ := hw'
  subst hw''
  go_wp2
  go_ret
  exact ⟨rfl, HB.out.trans ((below_regrown V dq osq).mono HB.out.size)⟩

set_option maxHeartbeats 4000000 in
theorem checkCond_like (nr a : Nat) (ha : a ≤ 3) (v m : Nat) (g : ByteArray) (ip : Nat) (b lo hi : Int) (_hc : CdOk ⟨a, 8, v, m, g, ⟨ip, b, lo, hi⟩⟩)  (w : World) (hk : kindAt nr a = kindOp 8) (h : ¬ unusedP ⟨a, 8, v, m, g, ⟨ip, b, lo, hi⟩⟩) :
    Calls Try.prog 35 #[condV ⟨a, 8, v, m, g, ⟨ip, b, lo, hi⟩⟩, kindsV nr] w fun e w' => e = .returned (errV (globF g)) ∧ Below w.heap.size w w' := by
  have HU := fun w => hasUnused_any ⟨a, 8, v, m, g, ⟨ip, b, lo, hi⟩⟩ w
  obtain ⟨u, hu⟩ : ∃ u, u = decide (unusedP ⟨a, 8, v, m, g, ⟨ip, b, lo, hi⟩⟩) := ⟨_, rfl⟩
  rw [← hu] at HU
  obtain ⟨ko, hko⟩ : ∃ k : Int, k = (kindOp 8 : Nat) := ⟨_, rfl⟩
  have HK := fun w => kindOf_any 8 w
  rw [← hko] at HK
  obtain ⟨ka, hka⟩ : ∃ k : Int, k = (kindAt nr a : Nat) := ⟨_, rfl⟩
  have hat := kinds_at nr a ha
  rw [← hka] at hat
  have hne : ko = ka := by rw [hka, hko, hk]
  subst hne
  have hut : u = false := by rw [hu]; exact decide_eq_false h
  subst hut
  clear hu hko hka h hk
  have hnn : (ko != ko) = false := by simp
  unfold kindsV condV at *
  simp only at *
  have i1 : ¬ (a : Int) < 0 := by omega
  have i2 : ¬ (4 : Int) ≤ a := by omega
  have i3 : (0 : Int) ≤ a := by omega
  have i4 : (a : Int) < 4 := by omega
  go_enter Try.func35, Try.ntmps35
  go_wp2
  obtain ⟨V, hV, hB, hx, hy⟩ := two_box w #[.int .i64 a, .int .i64 8, .int .u64 v, .int .u64 m, .string g, .int .u32 ip, .int .i64 b, .int .i64 lo, .int .i64 hi] #[.int .i64 (kindAt nr 0 : Nat), .int .i64 (kindAt nr 1 : Nat), .int .i64 (kindAt nr 2 : Nat), .int .i64 (kindAt nr 3 : Nat)] 62 89
  rw [← hV]
  clear hV
  have HB := hide hB
  clear hB
  have g0 := cell_regrown (hx 0)
  have g1 := cell_regrown (hx 1)
  have g2 := cell_regrown (hx 2)
  have g3 := cell_regrown (hx 3)
  have g4 := cell_regrown (hx 4)
  have g5 := cell_regrown (hx 5)
  have g6 := cell_regrown (hx 6)
  have g7 := cell_regrown (hx 7)
  have g8 := cell_regrown (hx 8)
  have gk := cell_regrown ((hy a).trans hat)
  have cK : ∀ d os, Calls Try.prog 40 #[.int .i64 8] (grow (redrawn V d) os) fun e w'' => e = .returned (.int .i64 ko) ∧ ∃ p : Regrown, w'' = grow (redrawn V p.d) p.os := fun d os => regrown_same (HK _)
  have cU : ∀ d os, Calls Try.prog 46 #[.agg #[.int .i64 a, .int .i64 8, .int .u64 v, .int .u64 m, .string g, .int .u32 ip, .int .i64 b, .int .i64 lo, .int .i64 hi]] (grow (redrawn V d) os) fun e w'' => e = .returned (.bool false) ∧ ∃ p : Regrown, w'' = grow (redrawn V p.d) p.os := fun d os => Calls.regrown_of (HU _)
  clear hx hy hat HU HK
  refine wp_region_quiet_below (by kernel_rfl) (by kernel_rfl) ?_
  repeat (go_big_quiet_step (first | (go_at_call 40; exact cK _ _) | (go_at_call 46; exact cU _ _)))
  refine wpQuiet_nil ?_
  intro _ hw'
  obtain ⟨⟨dq, osq⟩, hw''⟩ := hw'
  subst hw''
  have HE := gcheck_any g
  go_wp2_with (go_at_call 47; refine (HE _).mono ?_; rintro e W2 ⟨rfl, hb2⟩)
  go_ret
  exact ⟨rfl, below_next (HB.out.trans ((below_regrown V dq osq).mono HB.out.size)) hb2⟩

set_option maxHeartbeats 4000000 in
theorem checkCond_net (nr a : Nat) (ha : a ≤ 3) (v m : Nat) (g : ByteArray) (ip : Nat) (b lo hi : Int) (hc : CdOk ⟨a, 9, v, m, g, ⟨ip, b, lo, hi⟩⟩)  (w : World) (hk : kindAt nr a = kindOp 9) (h : ¬ unusedP ⟨a, 9, v, m, g, ⟨ip, b, lo, hi⟩⟩) :
    Calls Try.prog 35 #[condV ⟨a, 9, v, m, g, ⟨ip, b, lo, hi⟩⟩, kindsV nr] w fun e w' => e = .returned (errV (faultOf ip b lo hi)) ∧ Below w.heap.size w w' := by
  have HU := fun w => hasUnused_any ⟨a, 9, v, m, g, ⟨ip, b, lo, hi⟩⟩ w
  obtain ⟨u, hu⟩ : ∃ u, u = decide (unusedP ⟨a, 9, v, m, g, ⟨ip, b, lo, hi⟩⟩) := ⟨_, rfl⟩
  rw [← hu] at HU
  obtain ⟨ko, hko⟩ : ∃ k : Int, k = (kindOp 9 : Nat) := ⟨_, rfl⟩
  have HK := fun w => kindOf_any 9 w
  rw [← hko] at HK
  obtain ⟨ka, hka⟩ : ∃ k : Int, k = (kindAt nr a : Nat) := ⟨_, rfl⟩
  have hat := kinds_at nr a ha
  rw [← hka] at hat
  have hne : ko = ka := by rw [hka, hko, hk]
  subst hne
  have hut : u = false := by rw [hu]; exact decide_eq_false h
  subst hut
  clear hu hko hka h hk
  have hnn : (ko != ko) = false := by simp
  unfold kindsV condV at *
  simp only at *
  have i1 : ¬ (a : Int) < 0 := by omega
  have i2 : ¬ (4 : Int) ≤ a := by omega
  have i3 : (0 : Int) ≤ a := by omega
  have i4 : (a : Int) < 4 := by omega
  go_enter Try.func35, Try.ntmps35
  go_wp2
  obtain ⟨V, hV, hB, hx, hy⟩ := two_box w #[.int .i64 a, .int .i64 9, .int .u64 v, .int .u64 m, .string g, .int .u32 ip, .int .i64 b, .int .i64 lo, .int .i64 hi] #[.int .i64 (kindAt nr 0 : Nat), .int .i64 (kindAt nr 1 : Nat), .int .i64 (kindAt nr 2 : Nat), .int .i64 (kindAt nr 3 : Nat)] 62 89
  rw [← hV]
  clear hV
  have HB := hide hB
  clear hB
  have g0 := cell_regrown (hx 0)
  have g1 := cell_regrown (hx 1)
  have g2 := cell_regrown (hx 2)
  have g3 := cell_regrown (hx 3)
  have g4 := cell_regrown (hx 4)
  have g5 := cell_regrown (hx 5)
  have g6 := cell_regrown (hx 6)
  have g7 := cell_regrown (hx 7)
  have g8 := cell_regrown (hx 8)
  have gk := cell_regrown ((hy a).trans hat)
  have cK : ∀ d os, Calls Try.prog 40 #[.int .i64 9] (grow (redrawn V d) os) fun e w'' => e = .returned (.int .i64 ko) ∧ ∃ p : Regrown, w'' = grow (redrawn V p.d) p.os := fun d os => regrown_same (HK _)
  have cU : ∀ d os, Calls Try.prog 46 #[.agg #[.int .i64 a, .int .i64 9, .int .u64 v, .int .u64 m, .string g, .int .u32 ip, .int .i64 b, .int .i64 lo, .int .i64 hi]] (grow (redrawn V d) os) fun e w'' => e = .returned (.bool false) ∧ ∃ p : Regrown, w'' = grow (redrawn V p.d) p.os := fun d os => Calls.regrown_of (HU _)
  clear hx hy hat HU HK
  refine wp_region_quiet_below (by kernel_rfl) (by kernel_rfl) ?_
  repeat (go_big_quiet_step (first | (go_at_call 40; exact cK _ _) | (go_at_call 46; exact cU _ _)))
  refine wpQuiet_nil ?_
  intro _ hw'
  obtain ⟨⟨dq, osq⟩, hw''⟩ := hw'
  subst hw''
  have HE := acheck_any ip hc.net.ip b lo hi hc.net.bits hc.net.lo hc.net.hi
  go_wp2_with (go_at_call 48; refine (HE _).mono ?_; rintro e W2 ⟨rfl, hb2⟩)
  go_ret
  exact ⟨rfl, below_next (HB.out.trans ((below_regrown V dq osq).mono HB.out.size)) hb2⟩

set_option maxHeartbeats 4000000 in
theorem checkCond_num (nr a : Nat) (ha : a ≤ 3) (op : Int) (v m : Nat) (g : ByteArray) (ip : Nat) (b lo hi : Int) (h1 : ¬ op < 1) (h9 : ¬ 9 < op) (_hc : CdOk ⟨a, op, v, m, g, ⟨ip, b, lo, hi⟩⟩) (h8 : ¬ op = 8) (h9n : ¬ op = 9) (w : World) (hk : kindAt nr a = kindOp op) (h : ¬ unusedP ⟨a, op, v, m, g, ⟨ip, b, lo, hi⟩⟩) :
    Calls Try.prog 35 #[condV ⟨a, op, v, m, g, ⟨ip, b, lo, hi⟩⟩, kindsV nr] w fun e w' => e = .returned (errV 0) ∧ Below w.heap.size w w' := by
  have HU := fun w => hasUnused_any ⟨a, op, v, m, g, ⟨ip, b, lo, hi⟩⟩ w
  obtain ⟨u, hu⟩ : ∃ u, u = decide (unusedP ⟨a, op, v, m, g, ⟨ip, b, lo, hi⟩⟩) := ⟨_, rfl⟩
  rw [← hu] at HU
  obtain ⟨ko, hko⟩ : ∃ k : Int, k = (kindOp op : Nat) := ⟨_, rfl⟩
  have HK := fun w => kindOf_any op w
  rw [← hko] at HK
  obtain ⟨ka, hka⟩ : ∃ k : Int, k = (kindAt nr a : Nat) := ⟨_, rfl⟩
  have hat := kinds_at nr a ha
  rw [← hka] at hat
  have hne : ko = ka := by rw [hka, hko, hk]
  subst hne
  have hut : u = false := by rw [hu]; exact decide_eq_false h
  subst hut
  clear hu hko hka h hk
  have hnn : (ko != ko) = false := by simp
  unfold kindsV condV at *
  simp only at *
  have i1 : ¬ (a : Int) < 0 := by omega
  have i2 : ¬ (4 : Int) ≤ a := by omega
  have i3 : (0 : Int) ≤ a := by omega
  have i4 : (a : Int) < 4 := by omega
  go_enter Try.func35, Try.ntmps35
  go_wp2
  obtain ⟨V, hV, hB, hx, hy⟩ := two_box w #[.int .i64 a, .int .i64 op, .int .u64 v, .int .u64 m, .string g, .int .u32 ip, .int .i64 b, .int .i64 lo, .int .i64 hi] #[.int .i64 (kindAt nr 0 : Nat), .int .i64 (kindAt nr 1 : Nat), .int .i64 (kindAt nr 2 : Nat), .int .i64 (kindAt nr 3 : Nat)] 62 89
  rw [← hV]
  clear hV
  have HB := hide hB
  clear hB
  have g0 := cell_regrown (hx 0)
  have g1 := cell_regrown (hx 1)
  have g2 := cell_regrown (hx 2)
  have g3 := cell_regrown (hx 3)
  have g4 := cell_regrown (hx 4)
  have g5 := cell_regrown (hx 5)
  have g6 := cell_regrown (hx 6)
  have g7 := cell_regrown (hx 7)
  have g8 := cell_regrown (hx 8)
  have gk := cell_regrown ((hy a).trans hat)
  have cK : ∀ d os, Calls Try.prog 40 #[.int .i64 op] (grow (redrawn V d) os) fun e w'' => e = .returned (.int .i64 ko) ∧ ∃ p : Regrown, w'' = grow (redrawn V p.d) p.os := fun d os => regrown_same (HK _)
  have cU : ∀ d os, Calls Try.prog 46 #[.agg #[.int .i64 a, .int .i64 op, .int .u64 v, .int .u64 m, .string g, .int .u32 ip, .int .i64 b, .int .i64 lo, .int .i64 hi]] (grow (redrawn V d) os) fun e w'' => e = .returned (.bool false) ∧ ∃ p : Regrown, w'' = grow (redrawn V p.d) p.os := fun d os => Calls.regrown_of (HU _)
  clear hx hy hat HU HK
  refine wp_region_quiet_below (by kernel_rfl) (by kernel_rfl) ?_
  repeat (go_big_quiet_step (first | (go_at_call 40; exact cK _ _) | (go_at_call 46; exact cU _ _)))
  refine wpQuiet_nil ?_
  intro _ hw'
  obtain ⟨⟨dq, osq⟩, hw''⟩ := hw'
  subst hw''
  clear _hc
  go_wp2
  go_ret
  exact ⟨rfl, HB.out.trans ((below_regrown V dq osq).mono HB.out.size)⟩

theorem checkCond_any (nr : Nat) (c : CD) (hc : CdOk c) (w : World) : Calls Try.prog 35 #[condV c, kindsV nr] w fun e w' => e = .returned (errV (condF nr c)) ∧ Below w.heap.size w w' := by
  by_cases h : c.arg < 0 ∨ 3 < c.arg ∨ c.op < 1 ∨ 9 < c.op
  · rw [show condF nr c = 1 from if_pos h]
    exact checkCond_bound c _ w h
  have hf : condF nr c = if kindAt nr c.arg.toNat ≠ kindOp c.op ∨ unusedP c then 3 else if c.op = 8 then globF c.glob else if c.op = 9 then netF c.net else 0 := if_neg h
  obtain ⟨arg, op, v, m, g, ⟨ip, b, lo, hi⟩⟩ := c
  simp only [not_or] at h hf
  obtain ⟨a, rfl⟩ : ∃ a : Nat, arg = a := ⟨arg.toNat, by omega⟩
  have ha : a ≤ 3 := by omega
  rw [Int.toNat_natCast] at hf
  by_cases hk : kindAt nr a = kindOp op
  · by_cases hu : unusedP ⟨a, op, v, m, g, ⟨ip, b, lo, hi⟩⟩
    · rw [hf, if_pos (.inr hu)]
      exact checkCond_unused nr a ha op v m g ip b lo hi h.2.2.1 h.2.2.2 w hk hu
    · rw [if_neg (by rw [not_or]; exact ⟨fun hc => hc hk, hu⟩)] at hf
      by_cases h8 : op = 8
      · rw [hf, if_pos h8]
        subst h8
        exact checkCond_like nr a ha v m g ip b lo hi hc w hk hu
      · by_cases h9 : op = 9
        · rw [hf, if_neg h8, if_pos h9]
          subst h9
          exact checkCond_net nr a ha v m g ip b lo hi hc w hk hu
        · rw [hf, if_neg h8, if_neg h9]
          exact checkCond_num nr a ha op v m g ip b lo hi h.2.2.1 h.2.2.2 hc h8 h9 w hk hu
  · rw [hf, if_pos (.inl hk)]
    exact checkCond_kind nr a ha op v m g ip b lo hi h.2.2.1 h.2.2.2 w hk
end Go.Proofs.Ytphkhfeofoadcab

/- policy.Check: rules, and a policy. -/
namespace Go.Proofs.Ytphkhfeofoadcab
open Go.RowKit Go.Sort

theorem one_box (w : World) (x : Array Value) (tx : TypeId) : ∃ V, V = w.alloc (.cells x tx) ∧ Below w.heap.size w V ∧ w.heap.size < V.heap.size ∧ (∀ j : Nat, V.cell? ⟨w.heap.size, j, none⟩ = x[j]?) :=
  ⟨_, rfl, box_below w _, by rw [World.size_alloc]; omega, fun j => World.cell?_alloc_new w x tx j⟩

theorem keep_cell {X Y : World} {b o : Nat} {v : Value} (hb : Below X.heap.size X Y) (h : X.cell? ⟨b, o, none⟩ = some v) : Y.cell? ⟨b, o, none⟩ = some v := ((bcell hb).1 b o (block_lt_of_cell h)).trans h

theorem below_undrew {B : Nat} {a w : World} (h : Below B a.drew w) : Below B a w := ⟨h.os, h.tape, h.output, h.size, h.block⟩
theorem forget_any {R : World → Prop} {W0 : World} (F : World → Prop) (h : F W0) (H : ∀ W, F W → R W) : R W0 := H _ h
/-- The world with the kinds laid at kb. -/
structure KX (V : World) (k kb : Nat) (X : World) : Prop where
  below : Below V.heap.size V X
  kinds : ∀ j, j < 4 → X.cell? ⟨kb, j, none⟩ = some (.int .i64 (kindAt k j : Nat))
theorem take_next {α : Type} {cs : List α} {i : Nat} (h : i < cs.length) : ∃ c, cs[i]? = some c ∧ cs.take (i + 1) = cs.take i ++ [c] :=
  ⟨cs[i], List.getElem?_eq_getElem h, by rw [List.take_add_one, List.getElem?_eq_getElem h]; rfl⟩
theorem firstF_append : ∀ a b : List Nat, firstF (a ++ b) = if firstF a = 0 then firstF b else firstF a
  | [], b => by simp [firstF]
  | x :: r, b => by
    rw [List.cons_append, firstF, firstF]
    by_cases h : x = 0
    · rw [if_pos h, if_pos h, firstF_append r b]
    · rw [if_neg h, if_neg h, if_neg h]
theorem firstF_one (x : Nat) : firstF [x] = x := by
  by_cases h : x = 0
  · simp [firstF, h]
  · simp [firstF]
    omega
theorem four {j : Nat} (h : j < 4) : j = 0 ∨ j = 1 ∨ j = 2 ∨ j = 3 := by omega
theorem KX.made {V w1 : World} {k : Nat} (hb : Below V.heap.size V w1) : KX V k w1.heap.size (w1.alloc (.cells #[.int .i64 (kindAt k 0 : Nat), .int .i64 (kindAt k 1 : Nat), .int .i64 (kindAt k 2 : Nat), .int .i64 (kindAt k 3 : Nat)] 89)) :=
  ⟨hb.alloc hb.size _, fun j hj => by
    rw [World.cell?_alloc_new]
    rcases four hj with rfl | rfl | rfl | rfl <;> rfl⟩
theorem sc {X : World} {b j : Nat} {v : Value} (h : X.cell? ⟨b, j, none⟩ = some v) (i : Nat) (u : Value) : (X.setCell ⟨b, i, none⟩ u).cell? ⟨b, j, none⟩ = some (if i = j then u else v) := by
  by_cases e : i = j
  · subst e
    rw [if_pos rfl]
    exact World.cell?_setCell_same _ _ _ h
  · rw [if_neg e, World.cell?_setCell_other _ _ _ _ (by simp_all)]
    exact h
theorem drewA {V w1 : World} (hb : Below V.drew.heap.size V.drew w1) : Below V.heap.size V w1 := ⟨hb.os, hb.tape, hb.output, hb.size, hb.block⟩
theorem drewB {V w1 : World} {o : Obj} (hb : Below (V.alloc o).drew.heap.size (V.alloc o).drew w1) : Below V.heap.size V w1 := below_next (box_below V o) (drewA hb)
theorem KX.set {V w1 : World} {k : Nat} (hb : Below V.heap.size V w1) (h : ∀ j, j < 4 → w1.cell? ⟨V.heap.size, j, none⟩ = some (.int .i64 0)) : KX V k V.heap.size ((((w1.setCell ⟨V.heap.size, 0, none⟩ (.int .i64 (kindAt k 0 : Nat))).setCell ⟨V.heap.size, 1, none⟩ (.int .i64 (kindAt k 1 : Nat))).setCell ⟨V.heap.size, 2, none⟩ (.int .i64 (kindAt k 2 : Nat))).setCell ⟨V.heap.size, 3, none⟩ (.int .i64 (kindAt k 3 : Nat))) := by
  refine ⟨?_, fun j hj => ?_⟩
  · exact (((hb.setCell (p := ⟨V.heap.size, 0, none⟩) (Nat.le_refl _) _).setCell (p := ⟨V.heap.size, 1, none⟩) (Nat.le_refl _) _).setCell (p := ⟨V.heap.size, 2, none⟩) (Nat.le_refl _) _).setCell (p := ⟨V.heap.size, 3, none⟩) (Nat.le_refl _) _
  · rw [sc (sc (sc (sc (h j hj) 0 _) 1 _) 2 _) 3 _]
    rcases four hj with rfl | rfl | rfl | rfl <;> rfl

set_option maxHeartbeats 4000000 in
theorem checkRule_any (r : RL) (oa : Option Addr) (cap : Nat) (w : World) (hc : IsConds oa r.conds w) (hr : RlOk r) (hcap : r.conds.length ≤ cap ∧ cap ≤ maxLen) :
    Calls Try.prog 23 #[ruleV r oa cap] w fun e w' => e = .returned (errV (ruleF r)) ∧ Below w.heap.size w w' := by
  obtain ⟨nr, cs, ⟨ak, ae⟩⟩ := r
  unfold ruleV
  simp only at hc hcap ⊢
  obtain ⟨n, hn⟩ : ∃ n, n = cs.length := ⟨_, rfl⟩
  rw [← hn] at hcap ⊢
  have hmax : n ≤ 9223372036854775807 := by have := hcap.2; unfold maxLen at this; omega
  by_cases h0 : nr < 0 ∨ 8 < nr
  · rw [show ruleF ⟨nr, cs, ⟨ak, ae⟩⟩ = 1 from if_pos h0]
    go_enter Try.func23, Try.ntmps23
    go_wp2
    all_goals first
      | omega
      | (go_ret
         exact ⟨rfl, box_below _ _⟩)
  have hf0 : ruleF ⟨nr, cs, ⟨ak, ae⟩⟩ = if 4 < cs.length then 2 else if firstF (cs.map (condF nr.toNat)) = 0 then actF ⟨ak, ae⟩ else firstF (cs.map (condF nr.toNat)) := if_neg h0
  obtain ⟨k, rfl⟩ : ∃ k : Nat, nr = k := ⟨nr.toNat, by omega⟩
  have hk8 : k ≤ 8 := by omega
  rw [Int.toNat_natCast, ← hn] at hf0
  have i1 : ¬ (k : Int) < 0 := by omega
  have i2 : ¬ (9 : Int) ≤ k := by omega
  by_cases h4 : 4 < n
  · have HF := hide (hf0.trans (if_pos h4))
    clear hf0 hn
    go_enter Try.func23, Try.ntmps23
    go_wp2
    go_ret
    exact ⟨by rw [HF.out]; rfl, box_below _ _⟩
  rw [if_neg h4] at hf0
  have HF := hide hf0
  have HN := hide hn
  have HC := hide (show 0 < n → ∃ b off, oa = some ⟨b, off, none⟩ ∧ b < w.heap.size ∧ Hid (∀ i c, cs[i]? = some c → CondAt w b (off + i * 9) c) from fun h => by
    obtain ⟨b, off, q1, q2, q3⟩ := hc.lie (by omega)
    exact ⟨b, off, q1, q2, hide q3⟩)
  have HL := hide (show ∀ i, i < n → ∃ c, cs[i]? = some c ∧ cs.take (i + 1) = cs.take i ++ [c] from fun i h => take_next (by omega))
  clear hc hr
  have i3 : ¬ (4 : Int) < n := by omega
  have fx := forms_index k hk8
  have fk := form_kinds k
  unfold kindsV at fk
  have HFO := forms_any
  obtain ⟨FA, hFA⟩ : ∃ a, a = formsArr := ⟨_, rfl⟩
  rw [← hFA] at fx HFO
  obtain ⟨FV, hFV⟩ : ∃ a, a = formV k := ⟨_, rfl⟩
  rw [← hFV] at fx fk
  clear hFA hFV hf0 hn h0 hcap
  go_enter Try.func23, Try.ntmps23
  go_wp2
  obtain ⟨V, hV, hB, hsz, hx⟩ := one_box w #[.int .i64 k, .slice oa n cap, .int .i64 ak, .int .i64 ae] 58
  rw [← hV]
  clear hV
  have c0 := hx 0
  obtain ⟨Z, hZ⟩ : ∃ Z : Obj, Z = .cells #[.int .i64 0, .int .i64 0, .int .i64 0, .int .i64 0] 89 := ⟨_, rfl⟩
  have z0 : ∀ j : Nat, j < 4 → (V.alloc Z).cell? ⟨V.heap.size, j, none⟩ = some (.int .i64 0) := fun j hj => by
    rw [hZ, World.cell?_alloc_new]
    rcases (by omega : j = 0 ∨ j = 1 ∨ j = 2 ∨ j = 3) with rfl | rfl | rfl | rfl <;> rfl
  have z1 : ∀ j : Nat, (V.alloc Z).frozen? ⟨V.heap.size, j, none⟩ = false := fun j => by rw [hZ]; exact World.frozen?_alloc_new _ _ _ _
  rw [hZ] at z0 z1
  clear hZ
  go_region_with (first
    | (go_at_call 34; refine (HFO V.drew).mono ?_; rintro e w1 ⟨rfl, hb1⟩; have c1 := keep_cell (o := 0) (v := .int .i64 k) (b := w.heap.size) hb1 c0; have l1 : w.heap.size < w1.heap.size := block_lt_of_cell c1; have HK := hide (KX.made (k := k) (drewA hb1)))
    | (go_at_call 34; refine (HFO (V.alloc _).drew).mono ?_; rintro e w1 ⟨rfl, hb1⟩; have c1 := keep_cell (o := 0) (v := .int .i64 k) (b := w.heap.size) hb1 (keep_cell (box_below V _) c0 : (V.alloc _).cell? _ = _); have l1 : w.heap.size < w1.heap.size := block_lt_of_cell c1; have d0 := keep_cell hb1 (z0 0 (by omega)); have d1 := keep_cell hb1 (z0 1 (by omega)); have d2 := keep_cell hb1 (z0 2 (by omega)); have d3 := keep_cell hb1 (z0 3 (by omega)); have f0 := ((bcell hb1).2 V.heap.size 0 (block_lt_of_cell (z0 0 (by omega)))).trans (z1 0); have f1 := ((bcell hb1).2 V.heap.size 1 (block_lt_of_cell (z0 0 (by omega)))).trans (z1 1); have f2 := ((bcell hb1).2 V.heap.size 2 (block_lt_of_cell (z0 0 (by omega)))).trans (z1 2); have f3 := ((bcell hb1).2 V.heap.size 3 (block_lt_of_cell (z0 0 (by omega)))).trans (z1 3); have HK := hide (KX.set (k := k) (drewB hb1) (fun j hj => keep_cell hb1 (z0 j hj)))))
  all_goals
    refine forget_any (KX V k _) HK.out ?_
    clear HK
    intro X hX
    have k0 := keep_cell hX.below (hx 0)
    have k1 := keep_cell hX.below (hx 1)
    have k2 := keep_cell hX.below (hx 2)
    have k3 := keep_cell hX.below (hx 3)
    go_wp2
    go_loopw [28] (fun I w' => ∃ i : Nat, i ≤ n ∧ I = .int .i64 i ∧ Hid (Below X.heap.size X w') ∧ Hid (firstF ((cs.take i).map (condF k)) = 0)) (fun I _ => n - (intOf I).toNat)
    case atStart => exact ⟨0, by omega, rfl, hide (Below.refl _ _), hide rfl⟩
    case round =>
      obtain ⟨i, hi, rfl, HB, HG⟩ := hrel
      by_cases hlt : i < n
      · obtain ⟨c, hcs, hcat⟩ := HL.out i hlt
        obtain ⟨b, off, rfl, hbw, HA⟩ := HC.out (by omega)
        have hA := (HA.out i c hcs).on fun j => (bcell (below_next (below_next (below_next hB hX.below) HB.out) (Below.refl _ _))).1 b j hbw
        have hok := hA.ok
        obtain ⟨f, hf⟩ : ∃ f, f = condF k c := ⟨_, rfl⟩
        have HQ := hide (show firstF ((cs.take (i + 1)).map (condF k)) = f by rw [hcat, List.map_append, firstF_append, if_pos HG.out, hf]; exact firstF_one _)
        have HCC := fun w => checkCond_any k c hok w
        rw [← hf] at HCC
        clear hf hok hcs hcat
        have g1 := cell_regrown (keep_cell HB.out k1)
        have e0 := cell_regrown (keep_cell HB.out (hX.kinds 0 (by omega)))
        have e1 := cell_regrown (keep_cell HB.out (hX.kinds 1 (by omega)))
        have e2 := cell_regrown (keep_cell HB.out (hX.kinds 2 (by omega)))
        have e3 := cell_regrown (keep_cell HB.out (hX.kinds 3 (by omega)))
        obtain ⟨a0, a1, a2, a3, a4, a5, a6, a7, a8, _⟩ := hA
        replace a0 := cell_regrown a0
        replace a1 := cell_regrown a1
        replace a2 := cell_regrown a2
        replace a3 := cell_regrown a3
        replace a4 := cell_regrown a4
        replace a5 := cell_regrown a5
        replace a6 := cell_regrown a6
        replace a7 := cell_regrown a7
        replace a8 := cell_regrown a8
        obtain ⟨arg, op, v, m, gl, ⟨ip, bb, lo, hh⟩⟩ := c
        unfold condV kindsV at HCC
        simp only at a0 a1 a2 a3 a4 a5 a6 a7 a8 HCC
        obtain ⟨ev, hev⟩ : ∃ e, e = errV f := ⟨_, rfl⟩
        rw [← hev] at HCC
        have cC : ∀ d os, Calls Try.prog 35 #[.agg #[.int .i64 arg, .int .i64 op, .int .u64 v, .int .u64 m, .string gl, .int .u32 ip, .int .i64 bb, .int .i64 lo, .int .i64 hh], .agg #[.int .i64 (kindAt k 0 : Nat), .int .i64 (kindAt k 1 : Nat), .int .i64 (kindAt k 2 : Nat), .int .i64 (kindAt k 3 : Nat)]] (grow (redrawn wr d) os) fun e w'' => e = .returned ev ∧ ∃ p : Regrown, w'' = grow (redrawn wr p.d) p.os := fun d os => Calls.regrown_of (HCC _)
        clear HCC
        have i5 : (0 : Int) ≤ i := by omega
        have i6 : (i : Int) < n := by omega
        go_wp2
        refine wp_region_quiet_below (by kernel_rfl) (by kernel_rfl) ?_
        repeat (go_big_quiet_step (first | (go_at_call 35; exact cC _ _)))
        refine wpQuiet_nil ?_
        intro _ hw'
        obtain ⟨⟨dq, osq⟩, hw''⟩ := hw'
        subst hw''
        clear a0 a1 a2 a3 a4 a5 a6 a7 a8 g1 e0 e1 e2 e3 cC
        by_cases hz : f = 0
        · subst hz
          obtain rfl : ev = .nilIface := hev
          go_wp2
          go_round
          case rel => exact ⟨i + 1, by omega, by go_num, hide (below_next HB.out (below_regrown wr dq osq)), HQ⟩
          case measure => simp [intOf]; omega
        · rw [errV_pos hz] at hev
          subst hev
          have HE := hide (show ruleF ⟨k, cs, ⟨ak, ae⟩⟩ = f by
            have h1 : firstF (cs.map (condF k)) = f := by
              rw [← List.take_append_drop (i + 1) cs, List.map_append, firstF_append, if_neg (by rw [HQ.out]; exact hz), HQ.out]
            rw [HF.out, h1, if_neg hz])
          go_wp2
          go_ret
          exact ⟨by rw [HE.out, errV_pos hz]; rfl, below_next (below_next (below_next hB hX.below) HB.out) (below_regrown wr dq osq)⟩
      · obtain rfl : i = n := by omega
        have q2 := keep_cell HB.out k2
        have q3 := keep_cell HB.out k3
        have HE := hide (show ruleF ⟨k, cs, ⟨ak, ae⟩⟩ = actF ⟨ak, ae⟩ by
          have h1 : firstF (cs.map (condF k)) = 0 := by
            have := HG.out
            rwa [List.take_of_length_le (by rw [HN.out]; exact Nat.le_refl _)] at this
          rw [HF.out, if_pos h1])
        go_wp2_with (go_at_call 22; refine (checkAction_any ⟨ak, ae⟩ _).mono ?_; rintro e w2 ⟨rfl, hb2⟩)
        go_ret
        exact ⟨by rw [HE.out]; rfl, below_next (below_next (below_next hB hX.below) HB.out) hb2⟩
end Go.Proofs.Ytphkhfeofoadcab

/- policy.Check: a policy. -/
namespace Go.Proofs.Ytphkhfeofoadcab
open Go.RowKit Go.Sort

/-- What is kept of a policy's rules, for a walk. -/
theorem pol_parts {oa : Option Addr} {cap : Nat} {p : POL} {w : World} (h : IsPol oa cap p w) (n : Nat) (hn : n = p.rules.length) : 0 < n → ∃ b off, oa = some ⟨b, off, none⟩ ∧ b < w.heap.size ∧ Hid (∀ i r, p.rules[i]? = some r → ∃ ca ccap, RuleAt w b (off + i * 4) r ca ccap) := fun h0 => by
  obtain ⟨b, off, q1, q2, q3⟩ := h.rules.lie (by omega)
  exact ⟨b, off, q1, q2, hide q3⟩

set_option maxHeartbeats 4000000 in
theorem pcheck_any (p : POL) (oa : Option Addr) (cap : Nat) (w : World) (h : IsPol oa cap p w) :
    Calls Try.prog 13 #[polV p oa cap] w fun e w' => e = .returned (errV (polF p)) ∧ Below w.heap.size w w' := by
  obtain ⟨n, hn⟩ : ∃ n, n = p.rules.length := ⟨_, rfl⟩
  have HC := hide (pol_parts h n hn)
  have hmax : n ≤ 9223372036854775807 := by have h1 := h.le; have h2 := h.cap; unfold maxLen at h2; omega
  clear h
  obtain ⟨rs, ⟨ak, ae⟩⟩ := p
  unfold polV
  simp only at HC hn ⊢
  rw [← hn]
  have hf0 : polF ⟨rs, ⟨ak, ae⟩⟩ = if 12 < n then 2 else if actF ⟨ak, ae⟩ = 0 then firstF (rs.map ruleF) else actF ⟨ak, ae⟩ := by rw [hn]; rfl
  by_cases h4 : 12 < n
  · have HF := hide (hf0.trans (if_pos h4))
    clear hf0 hn
    go_enter Try.func13, Try.ntmps13
    go_wp2
    go_ret
    exact ⟨by rw [HF.out]; rfl, box_below _ _⟩
  rw [if_neg h4] at hf0
  have HA := checkAction_any ⟨ak, ae⟩
  obtain ⟨f0, hf⟩ : ∃ f, f = actF ⟨ak, ae⟩ := ⟨_, rfl⟩
  rw [← hf] at HA hf0
  have HF := hide hf0
  have HN := hide hn
  have HL := hide (show ∀ i, i < n → ∃ c, rs[i]? = some c ∧ rs.take (i + 1) = rs.take i ++ [c] from fun i h => take_next (by omega))
  clear hf0 hn hf
  unfold actV at HA
  simp only at HA
  by_cases hz0 : f0 = 0
  · subst hz0
    rw [if_pos rfl] at HF
    rw [errV_zero] at HA
    go_enter Try.func13, Try.ntmps13
    obtain ⟨V, hV, hB, hsz, hx⟩ := one_box w #[.slice oa n cap, .int .i64 ak, .int .i64 ae] 27
    go_wp2_with (go_at_call 22; rw [← hV]; clear hV; refine (HA _).mono ?_; rintro e X ⟨rfl, hX⟩; have k0 := keep_cell hX (hx 0); have k1 := keep_cell hX (hx 1); have k2 := keep_cell hX (hx 2))
    go_loopw [20] (fun I w' => ∃ i : Nat, i ≤ n ∧ I = .int .i64 i ∧ Hid (Below X.heap.size X w') ∧ Hid (firstF ((rs.take i).map ruleF) = 0)) (fun I _ => n - (intOf I).toNat)
    case atStart => exact ⟨0, by omega, rfl, hide (Below.refl _ _), hide rfl⟩
    case round =>
      obtain ⟨i, hi, rfl, HB, HG⟩ := hrel
      have HW := hide (below_next (below_next hB hX) HB.out)
      by_cases hlt : i < n
      · obtain ⟨c, hcs, hcat⟩ := HL.out i hlt
        obtain ⟨b, off, rfl, hbw, HA2⟩ := HC.out (by omega)
        obtain ⟨ca, cc, hR0⟩ := HA2.out i c hcs
        have hR := hR0.on hbw HW.out
        clear hR0
        obtain ⟨f, hf⟩ : ∃ f, f = ruleF c := ⟨_, rfl⟩
        have HQ := hide (show firstF ((rs.take (i + 1)).map ruleF) = f by rw [hcat, List.map_append, firstF_append, if_pos HG.out, hf]; exact firstF_one _)
        have HCC := checkRule_any c ca cc wr hR.conds hR.ok ⟨hR.le, hR.cap⟩
        rw [← hf] at HCC
        obtain ⟨a0, a1, a2, a3, _, _, _, _⟩ := hR
        clear hf hcs hcat
        have g0 := keep_cell HB.out k0
        obtain ⟨nr, cs, ⟨rk, re⟩⟩ := c
        unfold ruleV at HCC
        simp only at a0 a1 a2 a3 HCC
        by_cases hz : f = 0
        · subst hz
          rw [errV_zero] at HCC
          go_wp2_with (go_at_call 23; refine HCC.mono ?_; rintro e w1 ⟨rfl, hb1⟩)
          go_round
          case rel => exact ⟨i + 1, by omega, by go_num, hide (below_next HB.out hb1), HQ⟩
          case measure => simp [intOf]; omega
        · rw [errV_pos hz] at HCC
          have HE := hide (show polF ⟨rs, ⟨ak, ae⟩⟩ = f by
            have h1 : firstF (rs.map ruleF) = f := by
              rw [← List.take_append_drop (i + 1) rs, List.map_append, firstF_append, if_neg (by rw [HQ.out]; exact hz), HQ.out]
            rw [HF.out, h1])
          go_wp2_with (go_at_call 23; refine HCC.mono ?_; rintro e w1 ⟨rfl, hb1⟩)
          go_ret
          exact ⟨by rw [HE.out, errV_pos hz]; rfl, below_next HW.out hb1⟩
      · obtain rfl : i = n := by omega
        have HE := hide (show polF ⟨rs, ⟨ak, ae⟩⟩ = 0 by
          have := HG.out
          rw [List.take_of_length_le (by rw [HN.out]; exact Nat.le_refl _)] at this
          rw [HF.out, this])
        go_wp2
        go_ret
        exact ⟨by rw [HE.out]; rfl, HW.out⟩
  · rw [if_neg hz0] at HF
    rw [errV_pos hz0] at HA
    go_enter Try.func13, Try.ntmps13
    go_wp2_with (go_at_call 22; refine (HA _).mono ?_; rintro e X ⟨rfl, hX⟩)
    go_ret
    exact ⟨by rw [HF.out, errV_pos hz0]; rfl, below_next (box_below _ _) hX⟩
end Go.Proofs.Ytphkhfeofoadcab

/- What the library's variables hold. -/
namespace Go.Proofs.Ytphkhfeofoadcab
open Go.RowKit Go.Sort

/-- A text, as Go has it. -/
def bs (l : W8) : ByteArray := ⟨l.toArray⟩
theorem bs_size (l : W8) : (bs l).size = l.length := by unfold bs; simp [ByteArray.size]
theorem bs_append (a b : W8) : bs a ++ bs b = bs (a ++ b) := by
  apply ByteArray.ext
  simp [bs, ByteArray.data_append]
theorem bs_data (l : W8) : (bs l).data.toList = l := by unfold bs; simp
theorem bs_of (g : ByteArray) : bs g.data.toList = g := by unfold bs; simp

end Go.Proofs.Ytphkhfeofoadcab

/- A byte of an address. -/
namespace Go.Proofs.Ytphkhfeofoadcab
open Go.RowKit

/-- A byte of an address, the highest at 0. -/
def ipB (ip i : Nat) : Nat := ip / 2 ^ (24 - 8 * i) % 256

theorem ipB_lt (ip i : Nat) : ipB ip i < 256 := Nat.mod_lt _ (by decide)
end Go.Proofs.Ytphkhfeofoadcab

/- A string's bytes as numbers; '|' of numbers that share no bit. -/
namespace Go.Proofs.Ytphkhfeofoadcab
open Go.RowKit

def byteAt (s : ByteArray) (i : Nat) : Nat := (s.data.toList.getD i 0).toNat
theorem byteAt_lt (s : ByteArray) (i : Nat) : byteAt s i < 256 := (s.data.toList.getD i 0).toNat_lt
theorem byteAt_eq (s : ByteArray) (i : Nat) (h : i < s.size) : s[i].toNat = byteAt s i := by
  unfold byteAt
  rw [List.getD_eq_getElem?_getD, List.getElem?_eq_getElem (by rw [← Lib.size_eq]; exact h)]
  rfl
theorem or8 (a b : Nat) (hb : b < 256) : a * 256 ||| b = a * 256 + b := by
  have := Nat.shiftLeft_add_eq_or_of_lt (i := 8) (b := b) (by omega) a
  rw [Nat.shiftLeft_eq] at this
  exact this.symm
theorem u32_or8 (a b : Nat) (ha : a < 16777216) (hb : b < 256) : bits .or .u32 ((a : Int) * 256) (b : Int) = ((a * 256 + b : Nat) : Int) := by
  rw [show (a : Int) * 256 = ((a * 256 : Nat) : Int) by simp, u32_or_nat _ _ (by omega) (by omega), or8 a b hb]
theorem i64_or_nat (a b : Nat) (ha : a < 9223372036854775808) (hb : b < 9223372036854775808) : bits .or .i64 (a : Int) (b : Int) = ((a ||| b : Nat) : Int) := by
  have hx : a ||| b < 2 ^ 63 := Nat.or_lt_two_pow (by omega) (by omega)
  have h1 : (BitVec.ofInt 64 (a : Int)).toNat = a := by rw [BitVec.ofInt_natCast, BitVec.toNat_ofNat]; exact Nat.mod_eq_of_lt (by omega)
  have h2 : (BitVec.ofInt 64 (b : Int)).toNat = b := by rw [BitVec.ofInt_natCast, BitVec.toNat_ofNat]; exact Nat.mod_eq_of_lt (by omega)
  show IntKind.i64.wrap ((BitVec.ofInt 64 (a : Int) ||| BitVec.ofInt 64 (b : Int)).toNat : Int) = _
  rw [BitVec.toNat_or, h1, h2]
  rw [IntKind.wrap_i64]
  omega
theorem i64_or8 (a b : Nat) (ha : a < 256) (hb : b < 256) : bits .or .i64 ((a : Int) * 256) (b : Int) = ((a * 256 + b : Nat) : Int) := by
  rw [show (a : Int) * 256 = ((a * 256 : Nat) : Int) by simp, i64_or_nat _ _ (by omega) (by omega), or8 a b hb]
end Go.Proofs.Ytphkhfeofoadcab

/- addr.number: digits read. -/
namespace Go.Proofs.Ytphkhfeofoadcab
open Go.RowKit

def numV : Option Nat → Value
  | none => .tuple #[.int .i64 0, .bool false]
  | some n => .tuple #[.int .i64 n, .bool true]

theorem byte_list (s : ByteArray) (k : Nat) (h : k < s.size) : s.data.toList.take (k + 1) = s.data.toList.take k ++ [UInt8.ofNat (byteAt s k)] := by
  have hk : k < s.data.toList.length := by rw [← Lib.size_eq]; exact h
  rw [List.take_add_one, List.getElem?_eq_getElem hk]
  unfold byteAt
  rw [List.getD_eq_getElem?_getD, List.getElem?_eq_getElem hk]
  simp
theorem isDig_byte (n : Nat) (h : n < 256) : isDig (UInt8.ofNat n) = (decide (48 ≤ n) && decide (n ≤ 57)) := by
  unfold isDig
  rw [UInt8.toNat_ofNat', Nat.mod_eq_of_lt h]
theorem all_take (l : List UInt8) (k : Nat) (h : (l.take k).all isDig = false) : l.all isDig = false := by
  cases hb : l.all isDig with
  | false => rfl
  | true =>
    rw [List.all_eq_true] at hb
    have : (l.take k).all isDig = true := List.all_eq_true.2 fun x hx => hb x (List.mem_of_mem_take hx)
    rw [h] at this
    cases this

end Go.Proofs.Ytphkhfeofoadcab

/- addr.split: the numbers of a net's text. -/
namespace Go.Proofs.Ytphkhfeofoadcab
open Go.RowKit

/-- Seven numbers in a row of cells, noughts behind those that are there. -/
def padN (ns : List Nat) : Array Value := #[.int .i64 (ns.getD 0 0), .int .i64 (ns.getD 1 0), .int .i64 (ns.getD 2 0), .int .i64 (ns.getD 3 0), .int .i64 (ns.getD 4 0), .int .i64 (ns.getD 5 0), .int .i64 (ns.getD 6 0)]

def signsB : ByteArray := ⟨#[46, 46, 46, 47, 58, 45]⟩

theorem signs_extract (k : Nat) (hk : k < 6) : (⟨#[46, 46, 46, 47, 58, 45]⟩ : ByteArray).extract k (k + 1) = ⟨#[signsL.getD k 0]⟩ := by
  match k, hk with
  | 0, _ => rfl
  | 1, _ => rfl
  | 2, _ => rfl
  | 3, _ => rfl
  | 4, _ => rfl
  | 5, _ => rfl
theorem signs_drop (k : Nat) (hk : k < 6) : signsL.drop k = signsL.getD k 0 :: signsL.drop (k + 1) := by
  match k, hk with
  | 0, _ => rfl
  | 1, _ => rfl
  | 2, _ => rfl
  | 3, _ => rfl
  | 4, _ => rfl
  | 5, _ => rfl

theorem padN_get (ns : List Nat) (k : Nat) (hk : k < 7) : (padN ns)[k]? = some (.int .i64 (ns.getD k 0)) := by
  match k, hk with
  | 0, _ => rfl
  | 1, _ => rfl
  | 2, _ => rfl
  | 3, _ => rfl
  | 4, _ => rfl
  | 5, _ => rfl
  | 6, _ => rfl
theorem getD_app (ns : List Nat) (n j : Nat) : (ns ++ [n]).getD j 0 = if j = ns.length then n else ns.getD j 0 := by
  rw [List.getD_eq_getElem?_getD, List.getD_eq_getElem?_getD, List.getElem?_append]
  by_cases h : j < ns.length
  · rw [if_pos h, if_neg (by omega)]
  · rw [if_neg h]
    by_cases h2 : j = ns.length
    · rw [if_pos h2, h2]; simp
    · rw [if_neg h2, List.getElem?_eq_none (by simp; omega), List.getElem?_eq_none (by omega)]
theorem padN_set (ns : List Nat) (n k : Nat) (hl : ns.length = k) (hk : k < 7) : (padN ns).setIfInBounds k (.int .i64 n) = padN (ns ++ [n]) := by
  subst hl
  apply Array.ext_getElem?
  intro j
  rw [Array.getElem?_setIfInBounds]
  by_cases hj : j < 7
  · rw [padN_get _ j hj, padN_get _ j hj, getD_app]
    by_cases h : j = ns.length
    · rw [if_pos h, if_pos h.symm, if_pos (by show ns.length < 7; exact hk)]
    · rw [if_neg h, if_neg (fun e => h e.symm)]
  · rw [if_neg (by omega), Array.getElem?_eq_none (by show 7 ≤ j; omega), Array.getElem?_eq_none (by show 7 ≤ j; omega)]
theorem padN_one (ns : List Nat) : (padN ns).all (·.oneCell') = true := by simp [padN, Value.oneCell']
end Go.Proofs.Ytphkhfeofoadcab

/- addr.Parse. -/
namespace Go.Proofs.Ytphkhfeofoadcab
open Go.RowKit

def parseV : Option (Nat × Nat × Nat × Nat) → Value
  | none => .tuple #[netV 0 0 0 0, .iface 63 (.int .i64 4)]
  | some (ip, b, lo, hi) => .tuple #[netV ip b lo hi, .nilIface]

abbrev netC (ip b lo hi : Nat) : Array Value := #[.int .u32 ip, .int .i64 b, .int .i64 lo, .int .i64 hi]
theorem size_net : (Try.prog.info? 60).map (·.size) = some 4 := by kernel_rfl

/-- A net and a word handed back, the net out of its block. -/
theorem results_net {fn : Func} {p u : Tmp} (h : fn.results = #[.cell p 60, .tmp u]) (tmps : Array Value) (w : World) (g ip b lo hi : Nat) (v : Value)
    (hp : tmps.getD p undef = .pointer (some ⟨g, 0, none⟩)) (hv : tmps.getD u undef = v) (hg : w.heap[g]? = some (.cells (netC ip b lo hi) 60 (0, 0))) :
    (results fn tmps).run Try.prog w = .ok (.tuple #[netV ip b lo hi, v]) w := by
  rw [results_cell_tmp h, hp, hv]
  have hl := run_loadVar_row (P := Try.prog) w g 60 60 (netC ip b lo hi) (0, 0) _ hg Try.underlying60 rfl size_net
  simp [asAddr, hl]

/-- A net laid cell by cell into the result's block. -/
theorem res_start {X : World} {g : Nat} (hX : X.heap[g]? = some (.cells (netC 0 0 0 0) 60 (0, 0))) :
    X.cell? ⟨g, 0, none⟩ = some (.int .u32 0) ∧ (∀ k, X.frozen? ⟨g, k, none⟩ = false) ∧ (∀ a, X.setCell ⟨g, 0, none⟩ (.int .u32 a) = X.setRow g #[.int .u32 a, .int .i64 0, .int .i64 0, .int .i64 0]) :=
  ⟨cell_of_row _ _ 0 _ _ _ hX, fun k => frozen_of_row _ _ k _ _ hX, fun _ => setCell_eq_setRow _ _ 0 _ _ _ _ hX⟩
theorem setRow_twice (X : World) (g : Nat) (c0 c1 c2 : Array Value) (hX : X.heap[g]? = some (.cells c0 60 (0, 0))) : (X.setRow g c1).setRow g c2 = X.setRow g c2 := by
  have hg := (Array.getElem?_eq_some_iff.1 hX).1
  unfold World.setRow
  congr 1
  apply Array.ext_getElem?
  intro j
  simp only [Array.getElem?_modify]
  by_cases h : g = j
  · subst h
    simp [hX]
  · simp [h]
theorem res_row {X : World} {g : Nat} {c0 : Array Value} (hX : X.heap[g]? = some (.cells c0 60 (0, 0))) :
    (∀ cs k, (X.setRow g cs).cell? ⟨g, k, none⟩ = cs[k]?) ∧ (∀ cs k, (X.setRow g cs).frozen? ⟨g, k, none⟩ = false) ∧ (∀ cs k v, (X.setRow g cs).setCell ⟨g, k, none⟩ v = X.setRow g (cs.setIfInBounds k v)) :=
  ⟨fun cs k => cell_of_row _ _ k _ _ _ (setRow_heap _ _ _ cs _ _ hX), fun cs k => frozen_of_row _ _ k _ _ (setRow_heap _ _ _ cs _ _ hX), fun cs k v => by
    rw [setCell_eq_setRow _ _ k _ _ _ _ (setRow_heap _ _ _ cs _ _ hX), setRow_twice X g c0 _ _ hX]⟩

def ipP (ns : List Nat) : Nat → Nat
  | 0 => 0
  | k + 1 => ipP ns k * 256 + ns.getD k 0
theorem ipP_succ (ns : List Nat) (k : Nat) : ipP ns (k + 1) = ipP ns k * 256 + ns.getD k 0 := rfl

theorem alloc_old (W : World) (o : Obj) (g : Nat) (hg : g < W.heap.size) : (W.alloc o).heap[g]? = W.heap[g]? := Go.heap_alloc_old _ _ (h := hg)
theorem ipP_or (ns : List Nat) (k : Nat) (hk : k < 4) (hip : ipP ns k < 256 ^ k) (hb : ns.getD k 0 ≤ 255) : bits .or .u32 ((ipP ns k : Int) * 256 % 4294967296) (ns.getD k 0 : Int) = ((ipP ns (k + 1) : Nat) : Int) := by
  have h3 : ipP ns k < 16777216 := Nat.lt_of_lt_of_le hip (Nat.pow_le_pow_right (n := 256) (j := 3) (by decide) (by omega))
  rw [show (ipP ns k : Int) * 256 % 4294967296 = (ipP ns k : Int) * 256 by omega, u32_or8 _ _ h3 (by omega)]
  rfl
theorem parse_big {s : List UInt8} {ns : List Nat} (hs : splitN signsL s = some ns) (k : Nat) (hk : k < 4) (hb : ¬ ns.getD k 0 ≤ 255) : parseR s = none := by
  obtain ⟨hlen, _, _⟩ := splitN_some _ _ _ hs
  obtain ⟨a, b, c, d, e, f, g, rfl⟩ := len7 hlen
  unfold parseR
  rw [hs]
  show (if _ then _ else _) = _
  rw [if_neg]
  rintro ⟨h1, h2, h3, h4, _⟩
  match k, hk with
  | 0, _ => exact hb h1
  | 1, _ => exact hb h2
  | 2, _ => exact hb h3
  | 3, _ => exact hb h4

theorem getD_lt {ns : List Nat} (h : ∀ n ∈ ns, n < 100000) (k : Nat) : ns.getD k 0 < 100000 := by
  rw [List.getD_eq_getElem?_getD]
  by_cases hk : k < ns.length
  · rw [List.getElem?_eq_getElem hk]; exact h _ (List.getElem_mem hk)
  · rw [List.getElem?_eq_none (by omega)]; exact Nat.lt_of_lt_of_le Nat.one_pos (by decide)
theorem parse_end {s : List UInt8} {ns : List Nat} (hs : splitN signsL s = some ns) (hle : ∀ j, j < 4 → ns.getD j 0 ≤ 255) :
    parseR s = if faultOf (ipP ns 4) (ns.getD 4 0) (ns.getD 5 0) (ns.getD 6 0) = 0 then some (ipP ns 4, ns.getD 4 0, ns.getD 5 0, ns.getD 6 0) else none := by
  obtain ⟨hlen, _, _⟩ := splitN_some _ _ _ hs
  obtain ⟨a, b, c, d, e, f, g, rfl⟩ := len7 hlen
  have h0 : a ≤ 255 := hle 0 (by omega)
  have h1 : b ≤ 255 := hle 1 (by omega)
  have h2 : c ≤ 255 := hle 2 (by omega)
  have h3 : d ≤ 255 := hle 3 (by omega)
  have hi : ipP [a, b, c, d, e, f, g] 4 = ipOf a b c d := by
    show (((0 * 256 + a) * 256 + b) * 256 + c) * 256 + d = ((a * 256 + b) * 256 + c) * 256 + d
    rw [Nat.zero_mul, Nat.zero_add]
  rw [hi]
  unfold parseR
  rw [hs]
  show (if _ then _ else _) = if faultOf (ipOf a b c d) (e : Nat) (f : Nat) (g : Nat) = 0 then _ else _
  by_cases hf : faultOf (ipOf a b c d) (e : Nat) (f : Nat) (g : Nat) = 0
  · rw [if_pos ⟨h0, h1, h2, h3, hf⟩, if_pos hf]; rfl
  · rw [if_neg (fun h => hf h.2.2.2.2), if_neg hf]

end Go.Proofs.Ytphkhfeofoadcab

/- addr.numbers. -/
namespace Go.Proofs.Ytphkhfeofoadcab
open Go.RowKit

/-- The numbers, k of the address's written. -/
def numsK (ip b lo hi k : Nat) : List Nat := [if 0 < k then ipB ip 0 else 0, if 1 < k then ipB ip 1 else 0, if 2 < k then ipB ip 2 else 0, if 3 < k then ipB ip 3 else 0, b, lo, hi]
theorem numsK_set (ip b lo hi k : Nat) (hk : k < 4) : (padN (numsK ip b lo hi k)).setIfInBounds k (.int .i64 (ipB ip k : Nat)) = padN (numsK ip b lo hi (k + 1)) := by
  match k, hk with
  | 0, _ => rfl
  | 1, _ => rfl
  | 2, _ => rfl
  | 3, _ => rfl
theorem numsK_end (ip b lo hi : Nat) (hip : ip < 4294967296) : numsK ip b lo hi 4 = netNums ip b lo hi := by
  show [ipB ip 0, ipB ip 1, ipB ip 2, ipB ip 3, b, lo, hi] = _
  unfold ipB netNums
  rw [show ip / 2 ^ (24 - 8 * 0) % 256 = ip / 16777216 by omega, show ip / 2 ^ (24 - 8 * 1) % 256 = ip / 65536 % 256 by omega, show ip / 2 ^ (24 - 8 * 2) % 256 = ip / 256 % 256 by omega, show ip / 2 ^ (24 - 8 * 3) % 256 = ip % 256 by omega]

end Go.Proofs.Ytphkhfeofoadcab

/- addr.Text. -/
namespace Go.Proofs.Ytphkhfeofoadcab
open Go.RowKit Go.Sort

/-- What Text hands back. -/
def textV (ip : Nat) (b lo hi : Int) : Value := .tuple #[.string (if faultOf ip b lo hi = 0 then ⟨(netText ip b.toNat lo.toNat hi.toNat).toArray⟩ else ⟨#[]⟩), errV (faultOf ip b lo hi)]

theorem wpList_forget {P : Program} {ops : Array Oper} {r : List Oper} {Q : Exit → Act → World → Prop} {a : Act} {W0 : World} (F : World → Prop) (h : F W0) (H : ∀ W, F W → wpList P ops Q r a W) : wpList P ops Q r a W0 := H _ h

/-- The text of the first k + 1 numbers. -/
def textK (ns : List Nat) (k : Nat) : List UInt8 := joinN (signsL.take k) ns
theorem textK_zero (ns : List Nat) (h : ns.length = 7) : textK ns 0 = Lib.decDigits (ns.getD 0 0) := by
  obtain ⟨a, b, c, d, e, f, g, rfl⟩ := len7 h
  rfl
theorem textK_succ (ns : List Nat) (h : ns.length = 7) (k : Nat) (hk : k < 6) : textK ns (k + 1) = textK ns k ++ (signsL.getD k 0 :: Lib.decDigits (ns.getD (k + 1) 0)) := by
  obtain ⟨a, b, c, d, e, f, g, rfl⟩ := len7 h
  match k, hk with
  | 0, _ => rfl
  | 1, _ => simp [textK, signsL, joinN]
  | 2, _ => simp [textK, signsL, joinN]
  | 3, _ => simp [textK, signsL, joinN]
  | 4, _ => simp [textK, signsL, joinN]
  | 5, _ => simp [textK, signsL, joinN]

theorem textK_len (ns : List Nat) (h : ns.length = 7) (hb : ∀ k, ns.getD k 0 < 100000) : ∀ k, k ≤ 6 → (textK ns k).length ≤ 6 * (k + 1)
  | 0, _ => by
    rw [textK_zero ns h, Lib.decDigits_length]
    have := nDigits_le5 _ (hb 0)
    omega
  | k + 1, hk => by
    rw [textK_succ ns h k (by omega), List.length_append, List.length_cons, Lib.decDigits_length]
    have := nDigits_le5 _ (hb (k + 1))
    have := textK_len ns h hb k (by omega)
    omega
theorem textK_all {ns : List Nat} {ip b lo hi : Nat} (h : ns = netNums ip b lo hi) : textK ns 6 = netText ip b lo hi := by rw [h]; rfl

end Go.Proofs.Ytphkhfeofoadcab

/- policy.Text: a cond. -/
namespace Go.Proofs.Ytphkhfeofoadcab
open Go.RowKit Go.Sort

theorem sign_len (j : Nat) (h : j ≤ 8) : (signW.getD j []).length ≤ 2 := by
  rcases nine h with rfl | rfl | rfl | rfl | rfl | rfl | rfl | rfl | rfl <;> decide
theorem bs32 : (⟨#[32]⟩ : ByteArray) = bs [32] := rfl
theorem netText_len {ip b lo hi : Nat} (hf : faultOf ip b lo hi = 0) (hip : ip < 4294967296) : (netText ip b lo hi).length ≤ 100 := by
  have hfo := fault_ok hf
  have hb : ∀ k, (netNums ip b lo hi).getD k 0 < 100000 := fun k => getD_lt (fun n hn => by
    simp only [netNums, List.mem_cons, List.not_mem_nil, or_false] at hn
    omega) k
  have := textK_len (netNums ip b lo hi) rfl hb 6 (by omega)
  rw [textK_all rfl] at this
  omega
theorem bs34 : (⟨#[34]⟩ : ByteArray) = bs [34] := rfl
end Go.Proofs.Ytphkhfeofoadcab
