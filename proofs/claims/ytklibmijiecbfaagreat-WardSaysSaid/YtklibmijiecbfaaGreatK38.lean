/- copyPolicy. -/
import Derived.Test.YtklibmijiecbfaaGreatK15
import Derived.Test.YtklibmijiecbfaaGreatK36
import Derived.Test.YtklibmijiecbfaaGreatK37
import Derived.Laws.MakeOwn
import Derived.Test.YtklibmijiecbfaaGreatK16
import Derived.Test.YtklibmijiecbfaaGreatK2
import Derived.Test.YtklibmijiecbfaaGreatK13
namespace Go.Proofs.YtklibmijiecbfaaGreat
open Go.RowKit Mm

theorem VA_of (c : Array Value) : ∃ f, c = VA c.size f := ⟨fun i => c.getD i undef, by
 rw [VA_eq]
 unfold VA0
 refine Array.ext (by simp) fun i h1 h2 => ?_
 simp⟩
theorem setCells_VAn (N g : Nat) (ty : TypeId) : ∀ (l : List Value) (o : Nat) (f : Nat → Value) (W : World), W.heap[g]? = some (.cells (VA N f) ty (0, 0)) → W.setCells g o l = W.setRow g (VA N (ovr f o l))
 | [], o, f, W, h => by
  rw [show ovr f o [] = f by funext i; unfold ovr; rw [if_neg (by simp only [List.length_nil]; omega)]]
  exact (setRow_self W g _ _ _ h).symm
 | x :: r, o, f, W, h => by
  rw [World.setCells, setCell_eq_setRow _ _ _ _ _ _ _ h, VA_set, setCells_VAn N g ty r (o + 1) (updV f o x) _ (setRow_heap _ _ _ _ _ _ h), setRow_again _ _ _ _ _ _ h]
  congr 2
  funext i
  unfold ovr updV
  by_cases h1 : i = o
  ·
   subst h1
   rw [if_neg (by omega), if_pos rfl, if_pos (by simp), Nat.sub_self]
   rfl
  ·
   by_cases h2 : o + 1 ≤ i ∧ i < o + 1 + r.length
   ·
    rw [if_pos h2, if_pos (by rw [List.length_cons]; omega), show i - o = (i - (o + 1)) + 1 by omega, List.getD_cons_succ]
   ·
    rw [if_neg h2, if_neg h1, if_neg (by rw [List.length_cons]; omega)]
theorem wpList_make_rules {ops : Array Oper} {rest : List Oper} {o : Oper} {a : Act} {w : World} {Q : Exit → Act → World → Prop} (hgd : o.guard = none) (x y : Operand) (ho : o.op = .makeSlice 22 x y) (n : Nat)
  (hx : a.eval x = .int .i64 (n : Int)) (hy : a.eval y = .int .i64 (n : Int)) (hn : n ≤ 1000)
  (h : ∀ f : Nat → Value, wpList Tryz.prog ops Q rest (a.put o.dst (.slice (some ⟨w.heap.size, 0, none⟩) n n)) (w.alloc (.cells (VA (n * 4) f) 41))) : wpList Tryz.prog ops Q (o :: rest) a w := by
 obtain ⟨inf, hi0, hz0, hz1, hz2⟩ := info_rule
 have hr := run_make (P := Tryz.prog) w 22 41 inf _ Tryz.underlying22 hi0 hz0 .i64 .i64 (n : Int) (n : Int) (by omega) (Int.le_refl _) (by rw [hz2]; omega) (by omega)
 rw [Int.toNat_natCast, hz1] at hr
 refine wpList_plain hgd fun K hK => ?_
 unfold Oper.wp execOp
 simp only [ho, hx, hy, Sem.run_bind, hr, Result.andThen_ok]
 refine hK _ _ ?_
 obtain ⟨f, hf⟩ := VA_of _
 rw [size_madeCells] at hf
 rw [hf]
 exact h f
theorem wpList_make_conds {ops : Array Oper} {rest : List Oper} {o : Oper} {a : Act} {w : World} {Q : Exit → Act → World → Prop} (hgd : o.guard = none) (x y : Operand) (ho : o.op = .makeSlice 39 x y) (n : Nat)
  (hx : a.eval x = .int .i64 (n : Int)) (hy : a.eval y = .int .i64 (n : Int)) (hn : n ≤ 1000)
  (h : ∀ c : Array Value, c.size = n * 9 → wpList Tryz.prog ops Q rest (a.put o.dst (.slice (some ⟨w.heap.size, 0, none⟩) n n)) (w.alloc (.cells c 47))) : wpList Tryz.prog ops Q (o :: rest) a w := by
 obtain ⟨inf, hi0, hz0, hz1, hz2⟩ := info_cond
 have hr := run_make (P := Tryz.prog) w 39 47 inf _ Tryz.underlying39 hi0 hz0 .i64 .i64 (n : Int) (n : Int) (by omega) (Int.le_refl _) (by rw [hz2]; omega) (by omega)
 rw [Int.toNat_natCast, hz1] at hr
 refine wpList_plain hgd fun K hK => ?_
 unfold Oper.wp execOp
 simp only [ho, hx, hy, Sem.run_bind, hr, Result.andThen_ok]
 exact hK _ _ (h _ (size_madeCells _ _))
theorem wp_copy_wide {P : Program} {w : World} {o : Oper} {a : Act} {K : Act → World → Prop} {Q : Exit → Act → World → Prop} (d s : Operand) (dT sT : TypeId)
  (ho : o.op = .call { callee := .builtin .copy, args := #[d, s], argTypes := #[dT, sT] }) (elem : TypeId) (sz : Nat) (hu : P.underlying dT = some (.slice elem)) (hsz : (P.info? elem).map (·.size) = some sz)
  (g k dCap : Nat) (ad : Addr) (sCap : Nat) (hd : a.eval d = .slice (some ⟨g, 0, none⟩) k dCap) (hs : a.eval s = .slice (some ad) k sCap)
  (cur : Array Value) (t : TypeId) (hg : w.heap[g]? = some (.cells cur t (0, 0))) (cs : List Value) (hn : cs.length = k * sz) (hcur : cur.size = k * sz)
  (hsrc : ∀ j v, cs[j]? = some v → w.cell? (ad.add j) = some v) (h1 : ∀ v ∈ cs, v.oneCell' = true)
  (h : K (a.put o.dst (goInt k)) (w.setRow g cs.toArray)) : o.wp P a w K Q := by
 have hrun := run_copy_wide P w dT sT o.type elem sz g 0 k dCap ad k sCap cur t cs k hu hsz hg (Nat.min_self k).symm hn hsrc (by omega) h1
 rw [List.take_zero, List.nil_append, Nat.zero_add, List.drop_eq_nil_of_le (by simp; omega), List.append_nil] at hrun
 unfold Oper.wp
 simp [execOp, ho, resolve, invoke, builtin, hd, hs, hrun, Result.andThen]
 exact h
structure CKX (w : World) (oa : Option Addr) (n cap : Nat) (a : ACT) (rs : List RL) (i : Nat) (X : World) : Prop where
 below : Below w.heap.size w X
 box : X.heap[w.heap.size]? = some (.cells (polC (.slice oa n cap) a) 26 (0, 0))
 res : X.heap[w.heap.size + 1]? = some (.cells (polC (.slice none 0 0) ⟨0, 0⟩) 26 (0, 0))
 row : ∃ f, X.heap[w.heap.size + 2]? = some (.cells (VA (n * 4) f) 41 (0, 0)) ∧ ∀ j r, j < i → rs[j]? = some r → ∃ cb, w.heap.size + 2 < cb ∧ f (j * 4) = .int .i64 r.nr ∧ f (j * 4 + 1) = .slice (some ⟨cb, 0, none⟩) r.conds.length r.conds.length ∧ f (j * 4 + 2) = .int .i64 r.act.kind ∧ f (j * 4 + 3) = .int .i64 r.act.errno ∧
  X.heap[cb]? = some (.cells (flatC r.conds).toArray 47 (0, 0))
theorem CKX.lt {w : World} {oa : Option Addr} {n cap : Nat} {a : ACT} {rs : List RL} {i : Nat} {X : World} (h : CKX w oa n cap a rs i X) : w.heap.size + 2 < X.heap.size := by
 obtain ⟨f, h1, _⟩ := h.row
 exact (Array.getElem?_eq_some_iff.1 h1).1
theorem CKX.start (w : World) (oa : Option Addr) (n cap : Nat) (a : ACT) (rs : List RL) (f : Nat → Value) : CKX w oa n cap a rs 0 (((w.alloc (.cells (polC (.slice oa n cap) a) 26)).alloc (.cells (polC (.slice none 0 0) ⟨0, 0⟩) 26)).alloc (.cells (VA (n * 4) f) 41)) := by
 obtain ⟨A, hA⟩ : ∃ A, A = w.alloc (.cells (polC (.slice oa n cap) a) 26) := ⟨_, rfl⟩
 have a1 : A.heap[w.heap.size]? = some (.cells (polC (.slice oa n cap) a) 26 (0, 0)) := by rw [hA]; exact heap_alloc_new _ _
 have a2 : Below w.heap.size w A := by rw [hA]; exact box_below _ _
 have a3 : A.heap.size = w.heap.size + 1 := by rw [hA, World.size_alloc]
 rw [← hA]
 obtain ⟨B, hB⟩ : ∃ B, B = A.alloc (.cells (polC (.slice none 0 0) ⟨0, 0⟩) 26) := ⟨_, rfl⟩
 have b1 : B.heap[w.heap.size + 1]? = some (.cells (polC (.slice none 0 0) ⟨0, 0⟩) 26 (0, 0)) := by rw [hB, ← a3]; exact heap_alloc_new _ _
 have b2 : Below A.heap.size A B := by rw [hB]; exact box_below _ _
 have b3 : B.heap.size = w.heap.size + 2 := by rw [hB, World.size_alloc, a3]
 rw [← hB]
 have c2 := box_below B (.cells (VA (n * 4) f) 41)
 exact ⟨below_next (below_next a2 b2) c2, ((c2.block _ (by omega)).trans (b2.block _ (by omega))).trans a1, (c2.block _ (by omega)).trans b1, f, by rw [← b3]; exact heap_alloc_new _ _, fun j r hj => by omega⟩
theorem CKX.next {w : World} {oa : Option Addr} {n cap : Nat} {a : ACT} {rs : List RL} {i : Nat} {X : World} (h : CKX w oa n cap a rs i X) (hi : i < n) {r : RL} (hr : rs[i]? = some r) (sv : Value) (z : Array Value) {X4 : World}
  (h4 : X4 = (((X.setCells (w.heap.size + 2) (i * 4) [.int .i64 r.nr, sv, .int .i64 r.act.kind, .int .i64 r.act.errno]).setCell ⟨w.heap.size + 2, i * 4 + 1, none⟩ (.slice (some ⟨X.heap.size, 0, none⟩) r.conds.length r.conds.length)).alloc (.cells z 47)).drew.setRow X.heap.size (flatC r.conds).toArray) : CKX w oa n cap a rs (i + 1) X4 := by
 have hlt := h.lt
 obtain ⟨f, hf, hrs⟩ := h.row
 obtain ⟨l4, hl4⟩ : ∃ l, l = [Value.int .i64 r.nr, sv, .int .i64 r.act.kind, .int .i64 r.act.errno] := ⟨_, rfl⟩
 rw [← hl4, setCells_VAn (n * 4) _ _ l4 (i * 4) f X hf] at h4
 obtain ⟨U1, hU1⟩ : ∃ U, U = X.setRow (w.heap.size + 2) (VA (n * 4) (ovr f (i * 4) l4)) := ⟨_, rfl⟩
 have u1 : U1.heap[w.heap.size + 2]? = some (.cells (VA (n * 4) (ovr f (i * 4) l4)) 41 (0, 0)) := by rw [hU1]; exact setRow_heap _ _ _ _ _ _ hf
 have u1o : ∀ k, k ≠ w.heap.size + 2 → U1.heap[k]? = X.heap[k]? := fun k hk => by rw [hU1]; exact row_heap X _ k _ hk
 have u1s : U1.heap.size = X.heap.size := by rw [hU1, row_size]
 have u1w : U1.os = X.os ∧ U1.tape = X.tape ∧ U1.output = X.output := by rw [hU1]; exact ⟨rfl, rfl, rfl⟩
 rw [← hU1, setCell_eq_setRow _ _ _ _ _ _ _ u1, VA_set] at h4
 obtain ⟨F, hF⟩ : ∃ F, F = updV (ovr f (i * 4) l4) (i * 4 + 1) (.slice (some ⟨X.heap.size, 0, none⟩) r.conds.length r.conds.length) := ⟨_, rfl⟩
 rw [← hF] at h4
 obtain ⟨U2, hU2⟩ : ∃ U, U = U1.setRow (w.heap.size + 2) (VA (n * 4) F) := ⟨_, rfl⟩
 have u2 : U2.heap[w.heap.size + 2]? = some (.cells (VA (n * 4) F) 41 (0, 0)) := by rw [hU2]; exact setRow_heap _ _ _ _ _ _ u1
 have u2o : ∀ k, k ≠ w.heap.size + 2 → U2.heap[k]? = U1.heap[k]? := fun k hk => by rw [hU2]; exact row_heap U1 _ k _ hk
 have u2s : U2.heap.size = X.heap.size := by rw [hU2, row_size, u1s]
 have u2w : U2.os = U1.os ∧ U2.tape = U1.tape ∧ U2.output = U1.output := by rw [hU2]; exact ⟨rfl, rfl, rfl⟩
 rw [← hU2] at h4
 obtain ⟨U3, hU3⟩ : ∃ U, U = U2.alloc (.cells z 47) := ⟨_, rfl⟩
 have u3b : Below U2.heap.size U2 U3 := by rw [hU3]; exact box_below _ _
 have u3s : U3.heap.size = X.heap.size + 1 := by rw [hU3, World.size_alloc, u2s]
 have u3n : U3.heap[X.heap.size]? = some (.cells z 47 (0, 0)) := by rw [hU3, ← u2s]; exact heap_alloc_new _ _
 have u3 := (u3b.block _ (by omega)).trans u2
 rw [← hU3] at h4
 have u4 : X4.heap[X.heap.size]? = some (.cells (flatC r.conds).toArray 47 (0, 0)) := by rw [h4]; exact setRow_heap U3.drew _ _ _ _ _ u3n
 have u4o : ∀ k, k ≠ X.heap.size → X4.heap[k]? = U3.heap[k]? := fun k hk => by rw [h4]; exact row_heap U3.drew _ k _ hk
 have u4s : X4.heap.size = X.heap.size + 1 := by rw [h4, row_size]; exact u3s
 have u4w : X4.os = U3.os ∧ X4.tape = U3.tape ∧ X4.output = U3.output := by rw [h4]; exact ⟨rfl, rfl, rfl⟩
 have hoth : ∀ k, k < X.heap.size → k ≠ w.heap.size + 2 → X4.heap[k]? = X.heap[k]? := fun k hk hne => (u4o k (by omega)).trans ((u3b.block k (by omega)).trans ((u2o k hne).trans (u1o k hne)))
 have hbs := h.below.size
 refine ⟨h.below.trans ⟨u4w.1.trans (u3b.os.trans (u2w.1.trans u1w.1)), u4w.2.1.trans (u3b.tape.trans (u2w.2.1.trans u1w.2.1)), u4w.2.2.trans (u3b.output.trans (u2w.2.2.trans u1w.2.2)), by omega, fun k hk => hoth k (by omega) (by omega)⟩,
  (hoth _ (by omega) (by omega)).trans h.box, (hoth _ (by omega) (by omega)).trans h.res, F, (u4o _ (by omega)).trans u3, fun j r' hj hr' => ?_⟩
 by_cases hji : j = i
 ·
  subst hji
  obtain rfl : r = r' := Option.some.inj (hr.symm.trans hr')
  have hov : ∀ q, q < 4 → q ≠ 1 → F (j * 4 + q) = l4.getD q undef := fun q hq hq1 => by
   rw [hF]
   unfold updV ovr
   rw [if_neg (by omega), if_pos (by rw [hl4]; simp only [List.length_cons, List.length_nil]; omega), show j * 4 + q - j * 4 = q by omega]
  refine ⟨X.heap.size, hlt, ?_, ?_, ?_, ?_, u4⟩
  ·
   rw [show j * 4 = j * 4 + 0 from rfl, hov 0 (by omega) (by omega), hl4]; rfl
  ·
   rw [hF]; unfold updV; rw [if_pos rfl]
  ·
   rw [hov 2 (by omega) (by omega), hl4]; rfl
  ·
   rw [hov 3 (by omega) (by omega), hl4]; rfl
 ·
  obtain ⟨cb, h1, h2, h3, h5, h6, h7⟩ := hrs j r' (by omega) hr'
  have hFo : ∀ q, q < 4 → F (j * 4 + q) = f (j * 4 + q) := fun q hq => by
   rw [hF]
   unfold updV ovr
   rw [if_neg (by omega), if_neg (by rw [hl4]; simp only [List.length_cons, List.length_nil]; omega)]
  have hcl : cb < X.heap.size := (Array.getElem?_eq_some_iff.1 h7).1
  exact ⟨cb, h1, (hFo 0 (by omega)).trans h2, (hFo 1 (by omega)).trans h3, (hFo 2 (by omega)).trans h5, (hFo 3 (by omega)).trans h6, (hoth cb hcl (by omega)).trans h7⟩
theorem conds_row {W : World} {cb : Nat} {cs : List CD} (h : W.heap[cb]? = some (.cells (flatC cs).toArray 47 (0, 0))) (hok : ∀ c ∈ cs, CdOk c) : IsConds (some ⟨cb, 0, none⟩) cs W :=
 ⟨fun _ => ⟨cb, 0, rfl, (Array.getElem?_eq_some_iff.1 h).1, fun i c hc => by
  have hcell : ∀ j u, j < 9 → (condC c).toList[j]? = some u → W.cell? ⟨cb, 0 + i * 9 + j, none⟩ = some u := fun j u hj hu => by
   rw [cell_of_row _ _ _ _ _ _ h, Nat.zero_add, List.getElem?_toArray, flatC_get cs i c j hc hj]
   exact hu
  exact ⟨hcell 0 _ (by omega) rfl, hcell 1 _ (by omega) rfl, hcell 2 _ (by omega) rfl, hcell 3 _ (by omega) rfl, hcell 4 _ (by omega) rfl, hcell 5 _ (by omega) rfl, hcell 6 _ (by omega) rfl, hcell 7 _ (by omega) rfl, hcell 8 _ (by omega) rfl, hok c (List.mem_of_getElem? hc)⟩⟩⟩
theorem CKX.rules {w : World} {oa : Option Addr} {n cap : Nat} {a : ACT} {rs : List RL} {X : World} (h : CKX w oa n cap a rs n X) (hn : n = rs.length) (hok : ∀ r ∈ rs, RlOk r) (hm : ∀ r ∈ rs, r.conds.length ≤ 1000) {V : World} (hb : ∀ k, w.heap.size + 2 ≤ k → k < X.heap.size → V.heap[k]? = X.heap[k]?) (hs : X.heap.size ≤ V.heap.size) : IsRules (some ⟨w.heap.size + 2, 0, none⟩) rs V := by
 obtain ⟨f, hf, hrs⟩ := h.row
 have hlt := h.lt
 refine ⟨fun _ => ⟨w.heap.size + 2, 0, rfl, by omega, fun i r hr => ?_⟩⟩
 have hi : i < rs.length := (List.getElem?_eq_some_iff.1 hr).1
 obtain ⟨cb, h1, h2, h3, h5, h6, h7⟩ := hrs i r (by omega) hr
 have hmem := List.mem_of_getElem? hr
 have hcl : cb < X.heap.size := (Array.getElem?_eq_some_iff.1 h7).1
 have hV := (hb (w.heap.size + 2) (by omega) hlt).trans hf
 have hc : ∀ q, q < 4 → V.cell? ⟨w.heap.size + 2, 0 + i * 4 + q, none⟩ = some (f (i * 4 + q)) := fun q hq => by
  rw [cell_of_row _ _ _ _ _ _ hV, Nat.zero_add]
  exact VA_get _ _ _ (by omega)
 refine ⟨some ⟨cb, 0, none⟩, r.conds.length, (hc 0 (by omega)).trans (congrArg some h2), (hc 1 (by omega)).trans (congrArg some h3), (hc 2 (by omega)).trans (congrArg some h5), (hc 3 (by omega)).trans (congrArg some h6), conds_row ((hb cb (by omega) hcl).trans h7) (hok r hmem).conds, Nat.le_refl _, by have := hm r hmem; unfold maxLen; omega, hok r hmem⟩
def PolIn (B : Nat) (ob : Option Addr) (cap : Nat) (p : POL) (W : World) : Prop := ∀ V : World, (∀ k, B ≤ k → k < W.heap.size → V.heap[k]? = W.heap[k]?) → W.heap.size ≤ V.heap.size → IsPol ob cap p V
theorem IsPol.heap {oa : Option Addr} {cap : Nat} {p : POL} {W V : World} (h : IsPol oa cap p W) (hb : ∀ k, k < W.heap.size → V.heap[k]? = W.heap[k]?) (hs : W.heap.size ≤ V.heap.size) : IsPol oa cap p V :=
 ⟨⟨fun h0 => by
  obtain ⟨b, off, h1, h2, h3⟩ := h.rules.lie h0
  refine ⟨b, off, h1, by omega, fun i r hr => ?_⟩
  obtain ⟨ca, cc, hR⟩ := h3 i r hr
  have hc := fun j => cell_heap (hb b h2) j
  exact ⟨ca, cc, (hc _).trans hR.k0, (hc _).trans hR.k1, (hc _).trans hR.k2, (hc _).trans hR.k3, hR.conds.heap (fun b off e hb' => hb b hb') hs, hR.le, hR.cap, hR.ok⟩⟩, h.le, h.cap, h.ok⟩
end Go.Proofs.YtklibmijiecbfaaGreat

/- copyPolicy, walked. -/
namespace Go.Proofs.YtklibmijiecbfaaGreat
open Go.RowKit Mm


theorem run_copy_none (P : Program) (w : World) (dT sT ty elem : TypeId) (ad : Addr) (k dCap sCap sz : Nat) (hu : P.underlying dT = some (.slice elem)) (hs : (P.info? elem).map (·.size) = some sz) :
  (Builtin.copy_ #[dT, sT] ty #[.slice (some ad) k dCap, .slice none 0 sCap]).run P w = .ok (goInt 0) w := by
 cases hq : P.info? elem with
 | none => simp [hq] at hs
 | some i => simp [Builtin.copy_, run_underlying hu, Builtin.lenOf, Builtin.firstCells, sizeOf, typeInfo, hq, storeCells]
theorem wp_copy_none1 {P : Program} {w : World} {o : Oper} {a : Act} {K : Act → World → Prop} {Q : Exit → Act → World → Prop} (d s : Operand) (dT sT : TypeId)
  (ho : o.op = .call { callee := .builtin .copy, args := #[d, s], argTypes := #[dT, sT] }) (elem : TypeId) (sz : Nat) (hu : P.underlying dT = some (.slice elem)) (hsz : (P.info? elem).map (·.size) = some sz)
  (ad : Addr) (k dCap sCap : Nat) (hd : a.eval d = .slice (some ad) k dCap) (hs : a.eval s = .slice none 0 sCap)
  (h : K (a.put o.dst (goInt 0)) w) : o.wp P a w K Q := by
 have hrun := run_copy_none P w dT sT o.type elem ad k dCap sCap sz hu hsz
 unfold Oper.wp
 simp [execOp, ho, resolve, invoke, builtin, hd, hs, hrun, Result.andThen]
 exact h
set_option maxHeartbeats 8000000 in
set_option maxRecDepth 100000 in
theorem copyPol_any (p : POL) (hf : p.rules.length ≤ 100) (hc6 : ∀ r ∈ p.rules, r.conds.length ≤ 100) (oa : Option Addr) (cap : Nat) (w : World) (h : IsPol oa cap p w) :
  Calls Tryz.prog 20 #[polV p oa cap] w fun e w' => (∃ ob, e = .returned (polV p ob p.rules.length) ∧ IsPol ob p.rules.length p w' ∧ PolIn w.heap.size ob p.rules.length p w') ∧ Below w.heap.size w w' := by
 obtain ⟨n, hn⟩ : ∃ n, n = p.rules.length := ⟨_, rfl⟩
 have HC := hide (pol_parts h n hn)
 have HPK := hide h.ok
 clear h
 have h14 : n ≤ 100 := by omega
 have H6 := hide hc6
 clear hc6 hf
 obtain ⟨rs, ⟨ak, ae⟩⟩ := p
 have HPV := hide (show ∀ ob cb, polV ⟨rs, ⟨ak, ae⟩⟩ ob cb = .agg #[.slice ob n cb, .int .i64 ak, .int .i64 ae] from fun ob cb => by unfold polV; simp only at hn ⊢; rw [← hn])
 rw [HPV.out]
 simp only at HC hn H6
 have HN := hide hn
 have HRS : Hid (∀ i, i < n → ∃ c, rs[i]? = some c) := hide (fun i hi => ⟨_, List.getElem?_eq_getElem (by omega)⟩)
 have HPO := hide (show ∀ ob, (∃ ob', Ending.returned (.agg #[.slice ob n n, .int .i64 ak, .int .i64 ae]) = Ending.returned (polV ⟨rs, ⟨ak, ae⟩⟩ ob' (⟨rs, ⟨ak, ae⟩⟩ : POL).rules.length) ∧ ob' = ob) from fun ob => ⟨ob, by rw [HPV.out]; simp only; rw [← HN.out], rfl⟩)
 clear hn
 have HK0 := fun f => CKX.start w oa n cap ⟨ak, ae⟩ rs f
 unfold polC at HK0
 simp only at HK0
 go_enter Tryz.func20, Tryz.ntmps20
 go_wp2_with (refine wpList_make_rules rfl _ _ rfl n rfl rfl (by omega) ?_; intro f0; have HK1 := hide (HK0 f0); clear HK0)
 obtain ⟨V, hV⟩ : ∃ V, V = ((w.alloc (.cells #[.slice oa n cap, .int .i64 ak, .int .i64 ae] 26)).alloc (.cells #[.slice none 0 0, .int .i64 0, .int .i64 0] 26)).alloc (.cells (VA (n * 4) f0) 41) := ⟨_, rfl⟩
 rw [← hV] at HK1
 rw [← hV]
 clear hV
 go_loopw [11] (fun I w' => ∃ i : Nat, i ≤ n ∧ I = .int .i64 i ∧ Hid (CKX w oa n cap ⟨ak, ae⟩ rs i w')) (fun I _ => n - (intOf I).toNat)
 case atStart => exact ⟨0, by omega, rfl, HK1⟩
 case round =>
  obtain ⟨i, hi, rfl, HX⟩ := hrel
  clear HK1
  have lX := HX.out.lt
  by_cases hlt : i < n
  ·
   obtain ⟨c, hcs⟩ := HRS.out i hlt
   obtain ⟨b, off, rfl, hbw, HA⟩ := HC.out (by omega)
   obtain ⟨ca, cc, hR0⟩ := HA.out i c hcs
   have hR := hR0.on hbw HX.out.below
   obtain ⟨m, hm⟩ : ∃ m, m = c.conds.length := ⟨_, rfl⟩
   have hm6 : m ≤ 100 := by rw [hm]; exact H6.out c (List.mem_of_getElem? hcs)
   have HM := hide hm
   have HFL : Hid ((flatC c.conds).length = m * 9) := hide (by rw [flatC_len, hm])
   have HIC := hide hR0.conds
   have HNX := fun (z : Array Value) (X4 : World) => HX.out.next (X4 := X4) hlt hcs (.slice ca m cc) z
   have b0 : wr.cell? ⟨w.heap.size, 0, none⟩ = some (.slice (some ⟨b, off, none⟩) n cap) := cell_of_row _ _ 0 _ _ _ HX.out.box
   obtain ⟨p0, p1, p2, p3, _, _, _, _⟩ := hR
   rw [← hm] at p1
   simp only [← hm] at HNX
   obtain ⟨f, hf, _⟩ := HX.out.row
   have HROW := hide hf
   clear hcs hR0 hm hf
   obtain ⟨nr, cs, ⟨rk, re⟩⟩ := c
   simp only at p0 p1 p2 p3 HIC HFL HNX
   have i1 : (0 : Int) ≤ i := by omega
   have i2 : (i : Int) < n := by omega
   obtain ⟨U1, hU1⟩ : ∃ U, U = wr.setCells (w.heap.size + 2) (i * 4) [.int .i64 nr, .slice ca m cc, .int .i64 rk, .int .i64 re] := ⟨_, rfl⟩
   have HU1 : Hid (∀ k, k ≠ w.heap.size + 2 → U1.heap[k]? = wr.heap[k]?) := hide (fun k hk => by rw [hU1]; exact setCells_other _ _ hk _ _ _)
   have HU1s : U1.heap.size = wr.heap.size := by rw [hU1]; exact (setCells_size _ _ _ _).1
   have HU1r : Hid (U1.heap[w.heap.size + 2]? = some (.cells (VA (n * 4) (ovr f (i * 4) [.int .i64 nr, .slice ca m cc, .int .i64 rk, .int .i64 re])) 41 (0, 0))) := hide (by rw [hU1, setCells_VAn (n * 4) _ _ _ _ f wr HROW.out]; exact setRow_heap _ _ _ _ _ _ HROW.out)
   have b1 : U1.cell? ⟨w.heap.size, 0, none⟩ = some (.slice (some ⟨b, off, none⟩) n cap) := by rw [cell_heap (HU1.out _ (by omega))]; exact b0
   have q1 : U1.cell? ⟨b, off + i * 4 + 1, none⟩ = some (.slice ca m cc) := by rw [cell_heap (HU1.out _ (by omega))]; exact p1
   rw [← hU1] at HNX
   have lU : w.heap.size + 2 < U1.heap.size := by omega
   have HS1 := hide HU1s
   clear HU1s
   go_wp2_with (first
    | (refine wpList_store_mid (P := Tryz.prog) rfl 41 _ _ rfl (w.heap.size + 2) (i * 4) #[.int .i64 nr, .slice ca m cc, .int .i64 rk, .int .i64 re] (by go_simp) rfl (by intro j hj; exact ⟨by rw [cell_of_row _ _ _ _ _ _ HROW.out, VA_get _ _ _ (by have h4 : j < 4 := hj; omega)]; rfl, frozen_of_row _ _ _ _ _ HROW.out⟩) size_rule (by simp [Value.oneCell']) ?_; rw [← hU1]; clear hU1 b0 p0 p1 p2 p3)
    | (refine wpList_make_conds rfl _ _ rfl m rfl rfl (by omega) ?_; intro z hz; have u1 : (U1.alloc (.cells z 47)).cell? ⟨w.heap.size + 2, i * 4 + 1, none⟩ = some (.slice ca m cc) := (keep_cell (box_below U1 _) (by rw [cell_of_row _ _ _ _ _ _ HU1r.out, VA_get _ _ _ (by omega)]; unfold ovr; rw [if_pos (by simp only [List.length_cons, List.length_nil]; omega), show i * 4 + 1 - i * 4 = 1 by omega]; rfl)); have g1 : (U1.alloc (.cells z 47)).frozen? ⟨w.heap.size + 2, i * 4 + 1, none⟩ = false := frozen_of_row _ _ _ _ _ (((box_below U1 _).block _ lU).trans HU1r.out)))
   obtain ⟨U3, hU3⟩ : ∃ U, U = ((U1.setCell ⟨w.heap.size + 1 + 1, i * 4 + 1, none⟩ (.slice (some ⟨U1.heap.size, 0, none⟩) m m)).alloc (.cells z 47)) := ⟨_, rfl⟩
   have hb2 := Fr.set (g := w.heap.size + 2) (gm := w.heap.size + 2) (.slice none 0 0) U1 (i * 4 + 1) (.slice (some ⟨U1.heap.size, 0, none⟩) m m)
   have hsz : (U1.setCell ⟨w.heap.size + 2, i * 4 + 1, none⟩ (.slice (some ⟨U1.heap.size, 0, none⟩) m m)).heap.size = U1.heap.size := by simp [World.setCell]
   have HU3 : Hid (∀ k, k < U1.heap.size → k ≠ w.heap.size + 2 → U3.heap[k]? = U1.heap[k]?) := hide (fun k hk hne => by
    rw [hU3]
    exact ((box_below _ _).block k (by rw [hsz]; exact hk)).trans (Below.heap_setCell U1 ⟨w.heap.size + 2, i * 4 + 1, none⟩ _ k hne))
   have hzr : U3.drew.heap[U1.heap.size]? = some (.cells z 47 (0, 0)) := by
    rw [hU3]
    have := heap_alloc_new (U1.setCell ⟨w.heap.size + 2, i * 4 + 1, none⟩ (.slice (some ⟨U1.heap.size, 0, none⟩) m m)) (.cells z 47)
    rw [hsz] at this
    exact this
   have d0 : U3.drew.cell? ⟨w.heap.size + 1 + 1, i * 4 + 1, none⟩ = some (.slice (some ⟨U1.heap.size, 0, none⟩) m m) := by
    rw [hU3]
    refine keep_cell (box_below _ _).drew ?_
    rw [setCell_eq_setRow _ _ _ _ _ _ _ HU1r.out, VA_set, cell_of_row _ _ _ _ _ _ (setRow_heap _ _ _ _ _ _ HU1r.out), VA_get _ _ _ (by omega)]
    unfold updV
    rw [if_pos rfl]
   have d1 : U3.drew.cell? ⟨w.heap.size, 0, none⟩ = some (.slice (some ⟨b, off, none⟩) n cap) := (cell_heap (HU3.out _ (by omega) (by omega)) 0).trans b1
   have d2 : U3.drew.cell? ⟨b, off + i * 4 + 1, none⟩ = some (.slice ca m cc) := (cell_heap (HU3.out _ (by omega) (by omega)) _).trans q1
   have HN' := HNX z
   rw [← HS1.out] at HN'
   rw [← hU3]
   replace HN' : ∀ X4, X4 = U3.drew.setRow U1.heap.size (flatC cs).toArray → CKX w (some ⟨b, off, none⟩) n cap ⟨ak, ae⟩ rs (i + 1) X4 := fun X4 h => HN' X4 (by rw [h, hU3])
   clear hU3 b1 q1 u1 g1 hb2 hsz HNX
   cases ca with
   | none => as_aux_lemma =>
    have hm0 : m = 0 := by
     rcases Nat.eq_zero_or_pos cs.length with h | h
     ·
      rw [HM.out]; exact h
     ·
      obtain ⟨_, _, h1, _⟩ := HIC.out.lie h
      cases h1
    subst hm0
    have hcs0 : cs = [] := List.eq_nil_of_length_eq_zero HM.out.symm
    have HN := hide (HN' U3.drew (by rw [hcs0, show (flatC []).toArray = z from (Array.eq_empty_of_size_eq_zero (by omega)).symm]; exact (setRow_self _ _ _ _ _ hzr).symm))
    refine wp_region_any (by kernel_rfl) ?_
    change wpAny _ _ _ _ _ _ _ (World.drew _)
    refine Gl.wpAny_takeOf 0 (some 34) (.slice (some ⟨w.heap.size + 1 + 1, 0, none⟩) n n) rfl rfl (by kernel_rfl) (by kernel_rfl) (by kernel_rfl) (fun _ _ _ h => h) (Or.inl ⟨by rfl, ?_⟩) ?_
    ·
     intro wx
     go_simp
    try simp only [Act.put, LT1, LT2, LT3]
    refine Gl.wpAny_takeOf 1 (some 35) (.int .i64 (i : Nat)) rfl rfl (by kernel_rfl) (by kernel_rfl) (by kernel_rfl) (fun _ _ _ h => h) (Or.inl ⟨by rfl, ?_⟩) ?_
    ·
     intro wx
     go_simp
    try simp only [Act.put, LT1, LT2, LT3]
    refine Gl.wpAny_takeOf 2 (some 36) (Value.pointer (some ⟨w.heap.size + 1 + 1, i * 4, none⟩)) rfl rfl (by kernel_rfl) (by kernel_rfl) (by kernel_rfl) (fun _ _ _ h => h) (Or.inl ⟨by rfl, ?_⟩) ?_
    ·
     intro wx
     go_simp
    try simp only [Act.put, LT1, LT2, LT3]
    refine Gl.wpAny_takeOf 3 (some 37) (Value.pointer (some ⟨w.heap.size + 1 + 1, i * 4 + 1, none⟩)) rfl rfl (by kernel_rfl) (by kernel_rfl) (by kernel_rfl) (fun _ _ _ h => h) (Or.inl ⟨by rfl, ?_⟩) ?_
    ·
     intro wx
     go_simp
    try simp only [Act.put, LT1, LT2, LT3]
    refine Gl.wpAny_takeOf 5 (some 39) (Value.pointer (some ⟨w.heap.size, 0, none⟩)) rfl rfl (by kernel_rfl) (by kernel_rfl) (by kernel_rfl) (fun _ _ _ h => h) (Or.inl ⟨by rfl, ?_⟩) ?_
    ·
     intro wx
     go_simp
    try simp only [Act.put, LT1, LT2, LT3]
    refine Gl.wpAny_takeOf 7 (some 41) (.int .i64 (i : Nat)) rfl rfl (by kernel_rfl) (by kernel_rfl) (by kernel_rfl) (fun _ _ _ h => h) (Or.inl ⟨by rfl, ?_⟩) ?_
    ·
     intro wx
     go_simp
    try simp only [Act.put, LT1, LT2, LT3]
    refine wpAny_two (i := 4) (j := 6) (by kernel_rfl) rfl rfl rfl rfl (fun K hK => ?_) (fun K hK => ?_)
    ·
     go_simp
     refine hK _ _ ?_
     clear hK K
     try simp only [Act.put, LT1, LT2, LT3]
     refine Gl.wpAny_only (i := 6) (by kernel_rfl) rfl rfl (fun K hK => ?_)
     go_simp
     refine hK _ _ ?_
     clear hK K
     try simp only [Act.put, LT1, LT2, LT3]
     refine Gl.wpAny_takeOf 8 (some 42) (Value.pointer (some ⟨b, off + i * 4, none⟩)) rfl rfl (by kernel_rfl) (by kernel_rfl) (by kernel_rfl) (fun _ _ _ h => h) (Or.inl ⟨by rfl, ?_⟩) ?_
     ·
      intro wx
      go_simp
     try simp only [Act.put, LT1, LT2, LT3]
     refine Gl.wpAny_takeOf 9 (some 43) (Value.pointer (some ⟨b, off + i * 4 + 1, none⟩)) rfl rfl (by kernel_rfl) (by kernel_rfl) (by kernel_rfl) (fun _ _ _ h => h) (Or.inl ⟨by rfl, ?_⟩) ?_
     ·
      intro wx
      go_simp
     try simp only [Act.put, LT1, LT2, LT3]
     refine Gl.wpAny_only (i := 10) (by kernel_rfl) rfl rfl (fun K hK => ?_)
     go_simp
     refine hK _ _ ?_
     clear hK K
     try simp only [Act.put, LT1, LT2, LT3]
     refine Gl.wpAny_only (i := 11) (by kernel_rfl) rfl rfl (fun K hK => ?_)
     refine wp_copy_none1 _ _ 39 39 rfl 47 9 Tryz.underlying39 size_cond ⟨U1.heap.size, 0, none⟩ 0 0 cc rfl rfl ?_
     refine hK _ _ ?_
     clear hK K
     try simp only [Act.put, LT1, LT2, LT3]
     refine wpAny_done (by kernel_rfl) ?_ _
     go_wp2
     go_round
     case rel => exact ⟨i + 1, by omega, by go_num, HN⟩
     case measure => simp [intOf]; omega
    ·
     go_simp
     refine hK _ _ ?_
     clear hK K
     try simp only [Act.put, LT1, LT2, LT3]
     refine Gl.wpAny_takeOf 8 (some 42) (Value.pointer (some ⟨b, off + i * 4, none⟩)) rfl rfl (by kernel_rfl) (by kernel_rfl) (by kernel_rfl) (fun _ _ _ h => h) (Or.inl ⟨by rfl, ?_⟩) ?_
     ·
      intro wx
      go_simp
     try simp only [Act.put, LT1, LT2, LT3]
     refine Gl.wpAny_takeOf 9 (some 43) (Value.pointer (some ⟨b, off + i * 4 + 1, none⟩)) rfl rfl (by kernel_rfl) (by kernel_rfl) (by kernel_rfl) (fun _ _ _ h => h) (Or.inl ⟨by rfl, ?_⟩) ?_
     ·
      intro wx
      go_simp
     try simp only [Act.put, LT1, LT2, LT3]
     refine wpAny_two (i := 4) (j := 10) (by kernel_rfl) rfl rfl rfl rfl (fun K hK => ?_) (fun K hK => ?_)
     ·
      go_simp
      refine hK _ _ ?_
      clear hK K
      try simp only [Act.put, LT1, LT2, LT3]
      refine Gl.wpAny_only (i := 10) (by kernel_rfl) rfl rfl (fun K hK => ?_)
      go_simp
      refine hK _ _ ?_
      clear hK K
      try simp only [Act.put, LT1, LT2, LT3]
      refine Gl.wpAny_only (i := 11) (by kernel_rfl) rfl rfl (fun K hK => ?_)
      refine wp_copy_none1 _ _ 39 39 rfl 47 9 Tryz.underlying39 size_cond ⟨U1.heap.size, 0, none⟩ 0 0 cc rfl rfl ?_
      refine hK _ _ ?_
      clear hK K
      try simp only [Act.put, LT1, LT2, LT3]
      refine wpAny_done (by kernel_rfl) ?_ _
      go_wp2
      go_round
      case rel => exact ⟨i + 1, by omega, by go_num, HN⟩
      case measure => simp [intOf]; omega
     ·
      go_simp
      refine hK _ _ ?_
      clear hK K
      try simp only [Act.put, LT1, LT2, LT3]
      refine Gl.wpAny_only (i := 4) (by kernel_rfl) rfl rfl (fun K hK => ?_)
      go_simp
      refine hK _ _ ?_
      clear hK K
      try simp only [Act.put, LT1, LT2, LT3]
      refine Gl.wpAny_only (i := 11) (by kernel_rfl) rfl rfl (fun K hK => ?_)
      refine wp_copy_none1 _ _ 39 39 rfl 47 9 Tryz.underlying39 size_cond ⟨U1.heap.size, 0, none⟩ 0 0 cc rfl rfl ?_
      refine hK _ _ ?_
      clear hK K
      try simp only [Act.put, LT1, LT2, LT3]
      refine wpAny_done (by kernel_rfl) ?_ _
      go_wp2
      go_round
      case rel => exact ⟨i + 1, by omega, by go_num, HN⟩
      case measure => simp [intOf]; omega
   | some ad => as_aux_lemma =>
    have hsrc : ∀ j v, (flatC cs)[j]? = some v → U3.drew.cell? (ad.add j) = some v := fun j v hj => by
     have hj9 : j < cs.length * 9 := by rw [← flatC_len cs]; exact (List.getElem?_eq_some_iff.1 hj).1
     obtain ⟨b', off', h1, h2, _⟩ := HIC.out.lie (by omega)
     have hc := flatC_cells HIC.out rfl j v hj
     rw [Option.some.inj h1, add_at] at hc ⊢
     rw [← hc]
     exact (cell_heap (HU3.out b' (by omega) (by omega)) _).trans ((cell_heap (HU1.out b' (by omega)) _).trans (HX.out.below.cell (p := ⟨b', off' + j, none⟩) h2))
    have HN := hide (HN' _ rfl)
    refine wp_region_any (by kernel_rfl) ?_
    change wpAny _ _ _ _ _ _ _ (World.drew _)
    refine Gl.wpAny_takeOf 0 (some 34) (.slice (some ⟨w.heap.size + 1 + 1, 0, none⟩) n n) rfl rfl (by kernel_rfl) (by kernel_rfl) (by kernel_rfl) (fun _ _ _ h => h) (Or.inl ⟨by rfl, ?_⟩) ?_
    ·
     intro wx
     go_simp
    try simp only [Act.put, LT1, LT2, LT3]
    refine Gl.wpAny_takeOf 1 (some 35) (.int .i64 (i : Nat)) rfl rfl (by kernel_rfl) (by kernel_rfl) (by kernel_rfl) (fun _ _ _ h => h) (Or.inl ⟨by rfl, ?_⟩) ?_
    ·
     intro wx
     go_simp
    try simp only [Act.put, LT1, LT2, LT3]
    refine Gl.wpAny_takeOf 2 (some 36) (Value.pointer (some ⟨w.heap.size + 1 + 1, i * 4, none⟩)) rfl rfl (by kernel_rfl) (by kernel_rfl) (by kernel_rfl) (fun _ _ _ h => h) (Or.inl ⟨by rfl, ?_⟩) ?_
    ·
     intro wx
     go_simp
    try simp only [Act.put, LT1, LT2, LT3]
    refine Gl.wpAny_takeOf 3 (some 37) (Value.pointer (some ⟨w.heap.size + 1 + 1, i * 4 + 1, none⟩)) rfl rfl (by kernel_rfl) (by kernel_rfl) (by kernel_rfl) (fun _ _ _ h => h) (Or.inl ⟨by rfl, ?_⟩) ?_
    ·
     intro wx
     go_simp
    try simp only [Act.put, LT1, LT2, LT3]
    refine Gl.wpAny_takeOf 5 (some 39) (Value.pointer (some ⟨w.heap.size, 0, none⟩)) rfl rfl (by kernel_rfl) (by kernel_rfl) (by kernel_rfl) (fun _ _ _ h => h) (Or.inl ⟨by rfl, ?_⟩) ?_
    ·
     intro wx
     go_simp
    try simp only [Act.put, LT1, LT2, LT3]
    refine Gl.wpAny_takeOf 7 (some 41) (.int .i64 (i : Nat)) rfl rfl (by kernel_rfl) (by kernel_rfl) (by kernel_rfl) (fun _ _ _ h => h) (Or.inl ⟨by rfl, ?_⟩) ?_
    ·
     intro wx
     go_simp
    try simp only [Act.put, LT1, LT2, LT3]
    refine wpAny_two (i := 4) (j := 6) (by kernel_rfl) rfl rfl rfl rfl (fun K hK => ?_) (fun K hK => ?_)
    ·
     go_simp
     refine hK _ _ ?_
     clear hK K
     try simp only [Act.put, LT1, LT2, LT3]
     refine Gl.wpAny_only (i := 6) (by kernel_rfl) rfl rfl (fun K hK => ?_)
     go_simp
     refine hK _ _ ?_
     clear hK K
     try simp only [Act.put, LT1, LT2, LT3]
     refine Gl.wpAny_takeOf 8 (some 42) (Value.pointer (some ⟨b, off + i * 4, none⟩)) rfl rfl (by kernel_rfl) (by kernel_rfl) (by kernel_rfl) (fun _ _ _ h => h) (Or.inl ⟨by rfl, ?_⟩) ?_
     ·
      intro wx
      go_simp
     try simp only [Act.put, LT1, LT2, LT3]
     refine Gl.wpAny_takeOf 9 (some 43) (Value.pointer (some ⟨b, off + i * 4 + 1, none⟩)) rfl rfl (by kernel_rfl) (by kernel_rfl) (by kernel_rfl) (fun _ _ _ h => h) (Or.inl ⟨by rfl, ?_⟩) ?_
     ·
      intro wx
      go_simp
     try simp only [Act.put, LT1, LT2, LT3]
     refine Gl.wpAny_only (i := 10) (by kernel_rfl) rfl rfl (fun K hK => ?_)
     go_simp
     refine hK _ _ ?_
     clear hK K
     try simp only [Act.put, LT1, LT2, LT3]
     refine Gl.wpAny_only (i := 11) (by kernel_rfl) rfl rfl (fun K hK => ?_)
     refine wp_copy_wide _ _ 39 39 rfl 47 9 Tryz.underlying39 size_cond U1.heap.size m m ad cc rfl rfl z 47 hzr (flatC cs) HFL.out hz hsrc (flatC_one cs) ?_
     refine hK _ _ ?_
     clear hK K
     try simp only [Act.put, LT1, LT2, LT3]
     refine wpAny_done (by kernel_rfl) ?_ _
     go_wp2
     go_round
     case rel => exact ⟨i + 1, by omega, by go_num, HN⟩
     case measure => simp [intOf]; omega
    ·
     go_simp
     refine hK _ _ ?_
     clear hK K
     try simp only [Act.put, LT1, LT2, LT3]
     refine Gl.wpAny_takeOf 8 (some 42) (Value.pointer (some ⟨b, off + i * 4, none⟩)) rfl rfl (by kernel_rfl) (by kernel_rfl) (by kernel_rfl) (fun _ _ _ h => h) (Or.inl ⟨by rfl, ?_⟩) ?_
     ·
      intro wx
      go_simp
     try simp only [Act.put, LT1, LT2, LT3]
     refine Gl.wpAny_takeOf 9 (some 43) (Value.pointer (some ⟨b, off + i * 4 + 1, none⟩)) rfl rfl (by kernel_rfl) (by kernel_rfl) (by kernel_rfl) (fun _ _ _ h => h) (Or.inl ⟨by rfl, ?_⟩) ?_
     ·
      intro wx
      go_simp
     try simp only [Act.put, LT1, LT2, LT3]
     refine wpAny_two (i := 4) (j := 10) (by kernel_rfl) rfl rfl rfl rfl (fun K hK => ?_) (fun K hK => ?_)
     ·
      go_simp
      refine hK _ _ ?_
      clear hK K
      try simp only [Act.put, LT1, LT2, LT3]
      refine Gl.wpAny_only (i := 10) (by kernel_rfl) rfl rfl (fun K hK => ?_)
      go_simp
      refine hK _ _ ?_
      clear hK K
      try simp only [Act.put, LT1, LT2, LT3]
      refine Gl.wpAny_only (i := 11) (by kernel_rfl) rfl rfl (fun K hK => ?_)
      refine wp_copy_wide _ _ 39 39 rfl 47 9 Tryz.underlying39 size_cond U1.heap.size m m ad cc rfl rfl z 47 hzr (flatC cs) HFL.out hz hsrc (flatC_one cs) ?_
      refine hK _ _ ?_
      clear hK K
      try simp only [Act.put, LT1, LT2, LT3]
      refine wpAny_done (by kernel_rfl) ?_ _
      go_wp2
      go_round
      case rel => exact ⟨i + 1, by omega, by go_num, HN⟩
      case measure => simp [intOf]; omega
     ·
      go_simp
      refine hK _ _ ?_
      clear hK K
      try simp only [Act.put, LT1, LT2, LT3]
      refine Gl.wpAny_only (i := 4) (by kernel_rfl) rfl rfl (fun K hK => ?_)
      go_simp
      refine hK _ _ ?_
      clear hK K
      try simp only [Act.put, LT1, LT2, LT3]
      refine Gl.wpAny_only (i := 11) (by kernel_rfl) rfl rfl (fun K hK => ?_)
      refine wp_copy_wide _ _ 39 39 rfl 47 9 Tryz.underlying39 size_cond U1.heap.size m m ad cc rfl rfl z 47 hzr (flatC cs) HFL.out hz hsrc (flatC_one cs) ?_
      refine hK _ _ ?_
      clear hK K
      try simp only [Act.put, LT1, LT2, LT3]
      refine wpAny_done (by kernel_rfl) ?_ _
      go_wp2
      go_round
      case rel => exact ⟨i + 1, by omega, by go_num, HN⟩
      case measure => simp [intOf]; omega
  ·
   have hnl : ¬ ((i : Int) < (n : Int)) := by omega
   obtain rfl : i = n := by omega
   have c1 : wr.cell? ⟨w.heap.size, 1, none⟩ = some (.int .i64 ak) := cell_of_row _ _ 1 _ _ _ HX.out.box
   have c2 : wr.cell? ⟨w.heap.size, 2, none⟩ = some (.int .i64 ae) := cell_of_row _ _ 2 _ _ _ HX.out.box
   have hres := HX.out.res
   obtain ⟨rc, hrc⟩ : ∃ rc : Array Value, rc = polC (.slice (some ⟨w.heap.size + 2, 0, none⟩) i i) ⟨ak, ae⟩ := ⟨_, rfl⟩
   have h1c : rc.all (·.oneCell') = true := by rw [hrc]; simp [polC, Value.oneCell']
   have HRC := hide hrc
   clear hrc
   go_wp2_with (refine wpList_store_row rfl 26 _ _ rfl (w.heap.size + 1) rc rfl (by rw [HRC.out]; rfl) 26 _ hres (by rw [HRC.out]; exact size_pol) (by rw [HRC.out]; rfl) h1c ?_)
   have hb1 : ∀ k, k ≠ w.heap.size + 1 → (wr.setRow (w.heap.size + 1) rc).heap[k]? = wr.heap[k]? := fun k hk => row_heap wr _ k _ hk
   refine bodyPost_ret (v := .agg rc) (results_cell_row rfl _ _ (w.heap.size + 1) 26 rc (0, 0) _ rfl (setRow_heap _ _ _ _ _ _ hres) Tryz.underlying26 rfl (by rw [HRC.out]; exact size_pol)) rfl ⟨?_, below_setRow HX.out.below (by omega) _⟩
   have hml : rs.length ≤ maxLen := by
    rw [← HN.out]
    unfold maxLen
    omega
   have hPI : PolIn w.heap.size (some ⟨w.heap.size + 2, 0, none⟩) rs.length ⟨rs, ⟨ak, ae⟩⟩ (wr.setRow (w.heap.size + 1) rc) := fun V hV hs => ⟨HX.out.rules HN.out HPK.out.rules (fun r hr => Nat.le_trans (H6.out r hr) (by omega)) (V := V) (fun k h1 h2 => (hV k (by omega) (by rw [row_size]; exact h2)).trans (hb1 k (by omega))) (by rw [row_size] at hs; exact hs), Nat.le_refl _, hml, HPK.out⟩
   exact ⟨some ⟨w.heap.size + 2, 0, none⟩, by rw [HRC.out, HPV.out]; unfold polC; simp only; rw [← HN.out], hPI _ (fun _ _ _ => rfl) (Nat.le_refl _), hPI⟩
end Go.Proofs.YtklibmijiecbfaaGreat

/- New. -/
namespace Go.Proofs.YtklibmijiecbfaaGreat
open Go.RowKit Mm

theorem pol_few {p : POL} (h : polF p = 0) : p.rules.length ≤ 100 ∧ ∀ r ∈ p.rules, r.conds.length ≤ 100 := by
 have hr := (polF_parts h).2
 unfold polF at h
 refine ⟨?_, fun r hm => ?_⟩
 ·
  split at h
  ·
   omega
  ·
   omega
 ·
  have h1 := hr r hm
  unfold ruleF at h1
  split at h1
  ·
   omega
  ·
   split at h1
   ·
    omega
   ·
    omega
structure NX (p : POL) (g gm : Nat) (P : PV) (w w' : World) : Prop where
 pol : P.p = p
 ward : WX g gm P newS (.slice none 0 0) w'
 below : Below w.heap.size w w'
 gb : P.bd ≤ g ∧ P.bd ≤ gm ∧ w.heap.size ≤ P.bd
 pin : ∀ V : World, (∀ k, w.heap.size ≤ k → k < P.bd → V.heap[k]? = w'.heap[k]?) → P.bd ≤ V.heap.size → IsPol P.oa P.cap P.p V
 g : w.heap.size ≤ g
 m : w.heap.size ≤ gm
theorem NX.of {p : POL} {ob : Option Addr} {w w2 w3 : World} {gm : Nat} (hw2 : Below w.heap.size w w2) (hI : IsPol ob p.rules.length p w2) (hP : PolIn w.heap.size ob p.rules.length p w2) (hgm : gm = w2.heap.size) (hw3 : Below w2.heap.size w2 w3) (hM : IsM gm zeroM w3) :
  NX p w3.heap.size gm ⟨p, ob, p.rules.length, w2.heap.size⟩ w (w3.alloc (.cells (VA 92 (cellW ⟨p, ob, p.rules.length, w2.heap.size⟩ gm (fun _ => idleT 0) (.slice none 0 0))) 79)) := by
 have hml : gm < w3.heap.size := (Array.getElem?_eq_some_iff.1 hM).1
 have hb := box_below w3 (.cells (VA 92 (cellW ⟨p, ob, p.rules.length, w2.heap.size⟩ gm (fun _ => idleT 0) (.slice none 0 0))) 79)
 refine ⟨rfl, ⟨heap_alloc_new _ _, hM.on hb, World.ownsRow_nil _ _ _ _, by omega, fun k hk => (by cases hk), ?_, fun V hV hs => ?_⟩, below_next (below_next hw2 hw3) hb, ⟨hw3.size, by rw [hgm]; exact Nat.le_refl _, hw2.size⟩, fun V hV hs => hP V (fun k h1 h2 => (hV k h1 h2).trans ((hb.block k (Nat.lt_of_lt_of_le h2 hw3.size)).trans (hw3.block k h2))) hs, ?_, ?_⟩
 ·
  show w2.heap.size ≤ _
  exact Nat.le_trans hw3.size hb.size
 ·
  refine hI.heap (fun k hk => (hV k hk ?_ ?_ (fun e => by cases e)).trans ((hb.block k ?_).trans (hw3.block k hk))) hs
  ·
   have := hw3.size; omega
  ·
   omega
  ·
   have := hw3.size; omega
 ·
  exact Nat.le_trans hw2.size hw3.size
 ·
  rw [hgm]; exact hw2.size
theorem new_err (p : POL) (hp : polF p ≠ 0) (oa : Option Addr) (cap : Nat) (w : World) (h : IsPol oa cap p w) :
  Calls Tryz.prog 8 #[polV p oa cap] w fun e w' => e = .returned (.tuple #[.pointer none, errV (polF p)]) ∧ Below w.heap.size w w' := by
 have HC := pcheck_any p oa cap (w.alloc (.cells (polC (.slice oa p.rules.length cap) p.els) 26)) (h.on (box_below w _))
 rw [errV_pos hp] at HC
 rw [errV_pos hp]
 obtain ⟨f, hf⟩ : ∃ f, f = polF p := ⟨_, rfl⟩
 rw [← hf] at HC
 rw [← hf]
 unfold polV at HC ⊢
 unfold polC at HC
 obtain ⟨n, hn⟩ : ∃ n, n = p.rules.length := ⟨_, rfl⟩
 rw [← hn] at HC
 rw [← hn]
 obtain ⟨rs, ⟨ak, ae⟩⟩ := p
 simp only at HC ⊢
 clear h hf hp hn
 go_enter Tryz.func8, Tryz.ntmps8
 go_wp2_with fail
 refine HC.mono ?_
 rintro e Y ⟨rfl, hY⟩
 go_wp2
 go_ret2
 exact ⟨rfl, below_next (box_below _ _) hY⟩
set_option maxHeartbeats 2000000 in
set_option maxRecDepth 20000 in
theorem new_ok (p : POL) (hp : polF p = 0) (oa : Option Addr) (cap : Nat) (w : World) (h : IsPol oa cap p w) :
  Calls Tryz.prog 8 #[polV p oa cap] w fun e w' => ∃ g gm P, e = .returned (.tuple #[.pointer (some ⟨g, 0, none⟩), .nilIface]) ∧ NX p g gm P w w' := by
 have HC := pcheck_any p oa cap (w.alloc (.cells (polC (.slice oa p.rules.length cap) p.els) 26)) (h.on (box_below w _))
 rw [hp, errV_zero] at HC
 have HP := fun X (hX : IsPol oa cap p X) => copyPol_any p (pol_few hp).1 (pol_few hp).2 oa cap X hX
 have HNX := fun (w2 w3 : World) (ob : Option Addr) (gm : Nat) => NX.of (p := p) (ob := ob) (w := w) (w2 := w2) (w3 := w3) (gm := gm)
 have HI := hide (h.on (box_below w (.cells (polC (.slice oa p.rules.length cap) p.els) 26)))
 have HPP := hide (show ∀ ob, IsPol ob p.rules.length p = IsPol ob p.rules.length p from fun _ => rfl)
 have HPV := hide (show ∀ ob cb, polV p ob cb = .agg #[.slice ob p.rules.length cb, .int .i64 p.els.kind, .int .i64 p.els.errno] from fun _ _ => rfl)
 rw [HPV.out]
 rw [HPV.out] at HC
 simp only [HPV.out] at HP
 unfold polC at HC HI
 obtain ⟨q, hq⟩ : ∃ q, q = p := ⟨_, rfl⟩
 obtain ⟨n, hn⟩ : ∃ n, n = p.rules.length := ⟨_, rfl⟩
 obtain ⟨ak, hak⟩ : ∃ n, n = p.els.kind := ⟨_, rfl⟩
 obtain ⟨ae, hae⟩ : ∃ n, n = p.els.errno := ⟨_, rfl⟩
 have HQN := hide (show q.rules.length = n ∧ q.els.kind = ak ∧ q.els.errno = ae by rw [hq, hn, hak, hae]; exact ⟨rfl, rfl, rfl⟩)
 rw [← hq] at HNX
 simp only [HQN.out.1] at HNX
 simp only [← hn, ← hak, ← hae] at HC HP HI
 rw [← hq, HQN.out.1, HQN.out.2.1, HQN.out.2.2]
 obtain ⟨V, hV, hVb, hVs, hVc⟩ := one_box w #[.slice oa n cap, .int .i64 ak, .int .i64 ae] 26
 have c0 := hVc 0
 have c1 := hVc 1
 have c2 := hVc 2
 simp only [List.getElem?_toArray, List.getElem?_cons_zero, List.getElem?_cons_succ] at c0 c1 c2
 rw [← hV] at HC HI
 have HQ := hide hq
 clear h hq hn hak hae hVc hVs HPV HPP hp
 go_enter Tryz.func8, Tryz.ntmps8
 go_wp2_with fail
 rw [← hV]
 refine HC.mono ?_
 rintro e Y ⟨rfl, hY⟩
 have HB := hide (below_next hVb hY)
 have HIY := hide (HI.out.on hY)
 replace c0 := keep_cell hY c0
 replace c1 := keep_cell hY c1
 replace c2 := keep_cell hY c2
 clear hY hV hVb HC HI
 go_wp2_with fail
 refine (HP Y HIY.out).mono ?_
 rintro e Z ⟨⟨ob, rfl, hIZ, hPZ⟩, hZ⟩
 have HPZ := hide (show PolIn w.heap.size ob n ⟨p.rules, p.els⟩ Z from fun V hV hs => hPZ V (fun k h1 h2 => hV k (Nat.le_trans HB.out.size h1) h2) hs)
 have HBZ := hide (below_next HB.out hZ)
 have HIZ := hide hIZ
 clear hZ c0 c1 c2 hIZ hPZ HP HIY
 go_wp2_with fail
 refine (new_any Z).mono ?_
 rintro e U ⟨rfl, hU, hM⟩
 have HW := hide (HNX Z U ob Z.heap.size HBZ.out (by rw [HQ.out]; exact HIZ.out) (by rw [HQ.out]; exact HPZ.out) rfl hU hM)
 obtain ⟨zt, hzt⟩ : ∃ z, z = VA 92 (cellW ⟨q, ob, n, Z.heap.size⟩ Z.heap.size (fun _ => idleT 0) (.slice none 0 0)) := ⟨_, rfl⟩
 rw [← hzt] at HW
 have HZT := hide (show zt = (Array.ofFn (n := 92) fun i => if (i : Nat) = 0 then .slice ob n n else if (i : Nat) = 1 then .int .i64 ak else if (i : Nat) = 2 then .int .i64 ae else if (i : Nat) = 3 then .pointer (some ⟨Z.heap.size, 0, none⟩) else if (i : Nat) < 91 then cellT (idleT 0) (((i : Nat) - 4) % 29) else .slice none 0 0) by
  rw [hzt, VA_eq]
  unfold VA0 cellW
  simp only [HQN.out.1, HQN.out.2.1, HQN.out.2.2])
 clear hzt hU hM HNX
 have HCC := hide (show (((Tryz.zeroCells79.setIfInBounds 0 (.slice ob n n)).setIfInBounds 1 (.int .i64 ak)).setIfInBounds 2 (.int .i64 ae)).setIfInBounds 3 (.pointer (some ⟨Z.heap.size, 0, none⟩)) = zt by rw [HZT.out]; kernel_rfl)
 go_wp2
 go_ret2
 refine ⟨U.heap.size, Z.heap.size, ⟨q, ob, n, Z.heap.size⟩, rfl, ?_⟩
 rw [HCC.out]
 exact HW.out
end Go.Proofs.YtklibmijiecbfaaGreat

/- Mem, Log: copies. -/
namespace Go.Proofs.YtklibmijiecbfaaGreat
open Go.RowKit Mm

theorem wmem_any {g gm : Nat} {P : PV} {s : WS} {lv : Value} {W : World} (h : WX g gm P s lv W) :
  Calls Tryz.prog 24 #[.pointer (some ⟨g, 0, none⟩)] W fun e w' => e = .returned (.pointer (some ⟨W.heap.size, 0, none⟩)) ∧ IsM W.heap.size s.mem w' ∧ Below W.heap.size W w' := by
 have HM := copy_any h.mem
 have cp := h.ptr
 clear h
 go_enter Tryz.func24, Tryz.ntmps24
 go_wp2_with fail
 refine HM.mono ?_
 rintro e w' ⟨rfl, h1, h2⟩
 go_wp2
 go_ret
 exact ⟨rfl, h1, h2⟩
theorem wpList_make_entries {ops : Array Oper} {rest : List Oper} {o : Oper} {a : Act} {w : World} {Q : Exit → Act → World → Prop} (hgd : o.guard = none) (x y : Operand) (ho : o.op = .makeSlice 63 x y) (n : Nat)
  (hx : a.eval x = .int .i64 (n : Int)) (hy : a.eval y = .int .i64 (n : Int)) (hn : n ≤ 1000000)
  (h : ∀ c : Array Value, c.size = n * 21 → wpList Tryz.prog ops Q rest (a.put o.dst (.slice (some ⟨w.heap.size, 0, none⟩) n n)) (w.alloc (.cells c 70))) : wpList Tryz.prog ops Q (o :: rest) a w := by
 obtain ⟨inf, hi0, hz0, hz1, hz2⟩ := info_entry
 have hr := run_make (P := Tryz.prog) w 63 70 inf _ Tryz.underlying63 hi0 hz0 .i64 .i64 (n : Int) (n : Int) (by omega) (Int.le_refl _) (by rw [hz2]; omega) (by omega)
 rw [Int.toNat_natCast, hz1] at hr
 refine wpList_plain hgd fun K hK => ?_
 unfold Oper.wp execOp
 simp only [ho, hx, hy, Sem.run_bind, hr, Result.andThen_ok]
 exact hK _ _ (h _ (size_madeCells _ _))
theorem flatE_one (l : List EN) : ∀ v ∈ flatE l, v.oneCell' = true := by
 intro v hv
 unfold flatE at hv
 obtain ⟨e, _, he⟩ := List.mem_flatMap.1 hv
 exact ent_one _ _ _ _ _ v he
set_option maxHeartbeats 1000000 in
theorem wlog_any {g gm : Nat} {P : PV} {s : WS} {lv : Value} {W : World} (h : WX g gm P s lv W) (hlog : s.log.length ≤ 1000000) :
  Calls Tryz.prog 18 #[.pointer (some ⟨g, 0, none⟩)] W fun e w' => e = .returned (.slice (some ⟨W.heap.size, 0, none⟩) s.log.length s.log.length) ∧ w'.heap[W.heap.size]? = some (.cells (flatE s.log).toArray 70 (0, 0)) ∧ Below W.heap.size W w' := by
 have hgl := h.glt
 have c0 := h.logc
 have HX := hide h
 obtain ⟨L, hL⟩ : ∃ L, L = s.log.length := ⟨_, rfl⟩
 obtain ⟨F, hF⟩ : ∃ F, F = flatE s.log := ⟨_, rfl⟩
 have ho := h.own
 have h1 : ∀ v ∈ F, v.oneCell' = true := by rw [hF]; exact flatE_one _
 have hne : lv.ownBlock ≠ some W.heap.size := fun e => by have := (h.own.lt _ e).2; omega
 rw [← hL] at hlog
 rw [← hL, ← hF] at ho
 rw [← hL, ← hF]
 clear h hL hF
 obtain ⟨hFl, hcase⟩ := ho
 have se : (Tryz.prog.info? 70).map (·.size) = some 21 := size_entry
 rcases hcase with ⟨rfl, rfl⟩ | ⟨gl, cap, cur, rfl, -, hrow, hcap, hcap2, hcs, htk⟩
 ·
  obtain rfl : F = [] := List.eq_nil_of_length_eq_zero (by omega)
  go_enter Tryz.func18, Tryz.ntmps18
  go_wp2_with (first
   | (refine wpList_make_entries rfl _ _ rfl 0 rfl rfl (by omega) ?_; intro c hc)
   | (refine wpList_copy_none0 rfl _ _ 63 63 rfl 70 21 Tryz.underlying63 se ⟨W.heap.size, 0, none⟩ 0 0 rfl rfl ?_))
  go_ret
  refine ⟨rfl, ?_, box_below _ _⟩
  rw [show c = #[] from Array.eq_empty_of_size_eq_zero (by omega)]
  exact heap_alloc_new W _
 ·
  have hsrc : ∀ (c : Array Value) j v, F[j]? = some v → (W.alloc (.cells c 70)).cell? ((⟨gl, 0, none⟩ : Addr).add j) = some v := by
   intro c j v hj
   rw [Addr.add_mid, Nat.zero_add]
   refine keep_cell (box_below W _) ?_
   rw [cell_of_row _ _ j _ _ _ hrow]
   have hjl : j < L * 21 := by rw [← hFl]; exact (List.getElem?_eq_some_iff.1 hj).1
   rw [← htk, List.getElem?_take, if_pos hjl] at hj
   simpa using hj
  have HB := fun c : Array Value => hide (below_setRow (box_below W (.cells c 70)) (Nat.le_refl _) F.toArray)
  have HR := fun c : Array Value => hide (setRow_heap (W.alloc (.cells c 70)) W.heap.size c F.toArray 70 (0, 0) (heap_alloc_new W _))
  have cA := fun c : Array Value => keep_cell (box_below W (.cells c 70)) c0
  clear hrow htk hcs HX
  go_enter Tryz.func18, Tryz.ntmps18
  go_wp2_with (first
   | (refine wpList_make_entries rfl _ _ rfl L rfl rfl hlog ?_; intro c hc; replace cA := cA c; replace HB := HB c; replace HR := HR c)
   | (refine wpList_copy_wide rfl _ _ 63 63 rfl 70 21 Tryz.underlying63 se W.heap.size L L ⟨gl, 0, none⟩ cap rfl rfl c 70 (heap_alloc_new W _) F hFl hc (hsrc c) h1 ?_))
  go_ret
  exact ⟨rfl, HR.out, HB.out⟩
end Go.Proofs.YtklibmijiecbfaaGreat

/- What comes late: no walk in it. -/
namespace Go.Proofs.YtklibmijiecbfaaGreat
open Mm

end Go.Proofs.YtklibmijiecbfaaGreat

/- A ward as the laws turn it. -/
namespace Go.Proofs.YtklibmijiecbfaaGreat
open Go.RowKit Mm

theorem flatE_len (l : List EN) : (flatE l).length = l.length * 21 := by
 induction l with
 | nil => rfl
 | cons e r ih =>
  show ((entE e).toList ++ flatE r).length = _
  rw [List.length_append, ih, List.length_cons]
  show 21 + _ = _
  omega
theorem flatE_get : ∀ (l : List EN) (i : Nat) (e : EN) (j : Nat), l[i]? = some e → j < 21 → (flatE l)[i * 21 + j]? = (entE e).toList[j]?
 | [], i, e, j, h, _ => by simp at h
 | x :: r, 0, e, j, h, hj => by
  obtain rfl : x = e := by simpa using h
  show ((entE x).toList ++ flatE r)[0 * 21 + j]? = _
  rw [Nat.zero_mul, Nat.zero_add, List.getElem?_append_left (show j < (entE x).toList.length from hj)]
 | x :: r, i + 1, e, j, h, hj => by
  show ((entE x).toList ++ flatE r)[(i + 1) * 21 + j]? = _
  rw [List.getElem?_append_right (show (entE x).toList.length ≤ _ from (by show 21 ≤ _; omega)), show (i + 1) * 21 + j - (entE x).toList.length = i * 21 + j from (by show (i + 1) * 21 + j - 21 = _; omega)]
  exact flatE_get r i e j (by simpa using h) hj
theorem log_cell {W : World} {b : Nat} {l : List EN} (h : W.heap[b]? = some (.cells (flatE l).toArray 70 (0, 0))) {i : Nat} {e : EN} (he : l[i]? = some e) (j : Nat) (hj : j < 21) {v : Value} (hv : (entE e).toList[j]? = some v) : W.cell? ⟨b, i * 21 + j, none⟩ = some v := by
 rw [cell_of_row _ _ _ _ _ _ h, List.getElem?_toArray, flatE_get l i e j he hj, hv]
end Go.Proofs.YtklibmijiecbfaaGreat
