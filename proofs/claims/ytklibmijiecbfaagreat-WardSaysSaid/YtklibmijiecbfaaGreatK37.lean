/- Own: a policy in its own memory, a mark behind each rule's conds. -/
import Derived.Test.YtklibmijiecbfaaGreatK36
import Derived.Laws.AppendOwnNone
namespace Go.Proofs.YtklibmijiecbfaaGreat
open Go.RowKit Go.Sort

theorem flatC_one (cs : List CD) : ∀ u ∈ flatC cs, u.oneCell' = true := fun u h => by
  unfold flatC at h
  obtain ⟨c, _, hu⟩ := List.mem_flatMap.1 h
  simp only [condC, List.mem_cons, List.not_mem_nil, or_false] at hu
  rcases hu with rfl | rfl | rfl | rfl | rfl | rfl | rfl | rfl | rfl <;> rfl
theorem add_at (b off j : Nat) : (⟨b, off, none⟩ : Addr).add j = ⟨b, off + j, none⟩ := by unfold Addr.add; split <;> simp_all
theorem flatC_cells {oa : Option Addr} {cs : List CD} {W : World} (h : IsConds oa cs W) {ad : Addr} (ha : oa = some ad) : ∀ j u, (flatC cs)[j]? = some u → W.cell? (ad.add j) = some u := fun j u hu => by
  have hj : j < cs.length * 9 := by rw [← flatC_len cs]; exact (List.getElem?_eq_some_iff.1 hu).1
  obtain ⟨b, off, h1, _, h3⟩ := h.lie (by omega)
  rw [ha] at h1
  obtain rfl := Option.some.inj h1
  obtain ⟨c, hc⟩ : ∃ c, cs[j / 9]? = some c := ⟨_, List.getElem?_eq_getElem (by omega)⟩
  have hI := h3 (j / 9) c hc
  have hg := flatC_get cs (j / 9) c (j % 9) hc (by omega)
  rw [show j / 9 * 9 + j % 9 = j by omega, hu] at hg
  rw [add_at, show off + j = off + j / 9 * 9 + j % 9 by omega, hg]
  have hcc : j % 9 = 0 ∨ j % 9 = 1 ∨ j % 9 = 2 ∨ j % 9 = 3 ∨ j % 9 = 4 ∨ j % 9 = 5 ∨ j % 9 = 6 ∨ j % 9 = 7 ∨ j % 9 = 8 := by omega
  rcases hcc with e | e | e | e | e | e | e | e | e
  · rw [e]; exact hI.k0
  · rw [e]; exact hI.k1
  · rw [e]; exact hI.k2
  · rw [e]; exact hI.k3
  · rw [e]; exact hI.k4
  · rw [e]; exact hI.k5
  · rw [e]; exact hI.k6
  · rw [e]; exact hI.k7
  · rw [e]; exact hI.k8

theorem step_append_conds {ops : Array Oper} {o : Oper} {a : Act} {w : World} {K : Act → World → Prop} {Q : Exit → Act → World → Prop} {E : Prop} (hgd : o.guard = none) (s x : Operand)
    (ho : o.op = .call { callee := .builtin .append, args := #[s, x], argTypes := #[39, 39] })
    (base : Nat) (hs : a.eval s = .slice none 0 0) (oa : Option Addr) (n cap : Nat) (cs : List CD) (hx : a.eval x = .slice oa n cap) (hn : n = cs.length) (hP : IsConds oa cs w)
    (hn9 : n ≤ 9) (hbase : base ≤ w.heap.size)
    (h : ∀ v' w', w'.ownsRow base 47 9 v' n (flatC cs) → Below w.heap.size w w' → K (a.put o.dst v') w') :
    if Region.wanted o (yielded ops a.tmps) = true then Oper.wp Tryz.prog o a w K Q else E := by
  have hw : Region.wanted o (yielded ops a.tmps) = true := by simp [Region.wanted, hgd]
  rw [if_pos hw]
  obtain ⟨i, hi, hz, hsz, hby⟩ := info_cond
  have key : ∃ v' w', (Builtin.append_ #[39, 39] o.type #[.slice none 0 0, .slice oa n cap]).run Tryz.prog w = .ok v' w' ∧ w'.ownsRow base 47 9 v' n (flatC cs) ∧ Below w.heap.size w w' := by
    cases oa with
    | none =>
      have h0 : cs.length = 0 := by
        rcases Nat.eq_zero_or_pos cs.length with h | h
        · exact h
        · obtain ⟨_, _, h1, _⟩ := hP.lie h
          cases h1
      obtain rfl := List.length_eq_zero_iff.1 h0
      subst hn
      exact ⟨.slice none 0 0, w, by simp [Builtin.append_, run_underlying Tryz.underlying39, sizeOf, typeInfo, hi, Builtin.lenOf, Builtin.firstCells], World.ownsRow_nil _ _ _ _, Below.refl _ _⟩
    | some ad =>
      obtain ⟨v', w', hr, h2, h3, _, _⟩ := run_append_own_at (P := Tryz.prog) w base 39 o.type 47 i _ 9 80 Tryz.underlying39 hi hz hsz hby rfl (by decide) (.slice none 0 0) 0 [] (World.ownsRow_nil _ _ _ _) ad n cap (flatC cs) (by rw [flatC_len, hn]) (flatC_cells hP rfl) (flatC_one cs) (by simp only [maxLen]; omega) (by omega) hbase
      rw [Nat.zero_add, List.nil_append] at h2
      exact ⟨v', w', hr, h2, (Below.refl _ _).grown h3 (Nat.le_refl _) (fun k hk => by cases hk)⟩
  obtain ⟨v', w', hr, h2, h3⟩ := key
  unfold Oper.wp execOp
  simp only [ho, resolve, invoke, builtin, Sem.run_bind, Sem.run_pure, Result.andThen_ok, List.map_toArray, List.map_cons, List.map_nil, hs, hx, hr]
  exact h v' w' h2 h3

theorem conds_prefix {W : World} {base k cap g : Nat} {cs : List CD} {ys : List Value} (h : W.ownsRow base 47 9 (.slice (some ⟨g, 0, none⟩) k cap) k (flatC cs ++ ys)) (hok : ∀ c ∈ cs, CdOk c) : IsConds (some ⟨g, 0, none⟩) cs W :=
  ⟨fun _ => ⟨g, 0, rfl, (h.lt g rfl).2, fun i c hc => by
    have hi : i < cs.length := (List.getElem?_eq_some_iff.1 hc).1
    have hcell : ∀ j u, j < 9 → (condC c).toList[j]? = some u → W.cell? ⟨g, 0 + i * 9 + j, none⟩ = some u := fun j u hj hu => by
      have h5 := h.cells (g := g) rfl (i * 9 + j) u (by rw [List.getElem?_append_left (by rw [flatC_len]; omega), flatC_get cs i c j hc hj]; exact hu)
      rwa [add_at, ← Nat.add_assoc] at h5
    exact ⟨hcell 0 _ (by omega) rfl, hcell 1 _ (by omega) rfl, hcell 2 _ (by omega) rfl, hcell 3 _ (by omega) rfl, hcell 4 _ (by omega) rfl, hcell 5 _ (by omega) rfl, hcell 6 _ (by omega) rfl, hcell 7 _ (by omega) rfl, hcell 8 _ (by omega) rfl, hok c (List.mem_of_getElem? hc)⟩⟩⟩
theorem owned_cap {W : World} {base n cap g : Nat} {xs : List Value} (h : W.ownsRow base 47 9 (.slice (some ⟨g, 0, none⟩) n cap) n xs) : n ≤ cap ∧ cap ≤ maxLen := by
  rcases h.2 with ⟨h1, _⟩ | ⟨g', cap', cur, h1, _, _, hc, hm, _⟩
  · cases h1
  · cases h1; exact ⟨hc, hm⟩
theorem row_grown {X Y : World} {o : Option Nat} {r : Nat} {x : Obj} (h : X.heap[r]? = some x) (hg : X.grownBy Y o) (hne : ∀ k, o = some k → r + 1 ≤ k) : Y.heap[r]? = some x :=
  (hg.block r (Array.getElem?_eq_some_iff.1 h).1 (fun e => by have := hne r e.symm; omega)).trans h

structure OZ (wr : World) (r6 : Nat) (nr : Int) (cs : List CD) (a : ACT) (gg cap1 : Nat) (Z : World) : Prop where
  below : Below wr.heap.size wr Z
  row : Z.heap[r6]? = some (.cells (ruleC nr (.slice (some ⟨gg, 0, none⟩) cs.length cap1) a) 41 (0, 0))
  conds : IsConds (some ⟨gg, 0, none⟩) cs Z
  le : cs.length ≤ cap1
  cap : cap1 ≤ maxLen
  lt : r6 < gg ∧ gg < Z.heap.size
  own : ∃ cur, Z.heap[gg]? = some (.cells cur 47 (0, 0))
theorem oz_of {wr X Y : World} {r6 m gg cap1 : Nat} {nr : Int} {cs : List CD} {a : ACT} {sv v : Value} {ys : List Value} (h0 : Below wr.heap.size wr X) (h6 : wr.heap.size ≤ r6) (hr : X.heap[r6]? = some (.cells (ruleC nr sv a) 41 (0, 0))) (hv : ∀ k, v.ownBlock = some k → r6 + 1 ≤ k)
    (hg : X.grownBy Y v.ownBlock) (ho : Y.ownsRow (r6 + 1) 47 9 (.slice (some ⟨gg, 0, none⟩) (m + 1) cap1) (m + 1) (flatC cs ++ ys)) (hok : ∀ c ∈ cs, CdOk c) (hm : m = cs.length) :
    OZ wr r6 nr cs a gg cap1 (Y.setCell ⟨r6, 1, none⟩ (.slice (some ⟨gg, 0, none⟩) m cap1)) := by
  have hY := row_grown hr hg hv
  have hl := ho.lt gg rfl
  have hc := owned_cap ho
  have hXY : Below wr.heap.size wr Y := h0.trans ⟨hg.os, hg.tape, hg.output, hg.size, fun k hk => hg.block k (Nat.lt_of_lt_of_le hk h0.size) (fun e => by have := hv k e.symm; omega)⟩
  have hB := But.set r6 1 Y (.slice (some ⟨gg, 0, none⟩) m cap1)
  refine ⟨hB.below hXY h6 hXY.size, ?_, ?_, by omega, hc.2, ⟨by omega, Nat.lt_of_lt_of_le hl.2 hB.size⟩, ?_⟩
  · rw [setCell_eq_setRow _ _ 1 _ _ _ _ hY, setRow_heap _ _ _ _ _ _ hY, hm]
    rfl
  · exact (conds_prefix ho hok).heap (fun b off e hb => hB.block b hb (by simp only [Option.some.injEq, Addr.mk.injEq] at e; omega)) hB.size
  · rcases ho.2 with ⟨h1, _⟩ | ⟨g', cap', cur, h1, _, h2, _⟩
    · cases h1
    · cases h1
      exact ⟨cur, (hB.block gg hl.2 (by omega)).trans h2⟩

theorem oz_plain {wr W1 w1 w2 : World} {m gg cap1 : Nat} {nr : Int} {cs : List CD} {a : ACT} {sv v : Value} {xs ys : List Value} (h0 : Below wr.heap.size wr W1) (hb : Below W1.heap.size W1 w1) (hr : w1.heap[wr.heap.size]? = some (.cells (ruleC nr sv a) 41 (0, 0))) (hv : w1.ownsRow (wr.heap.size + 1) 47 9 v m xs)
    (hg : w1.grownBy w2 v.ownBlock) (ho : w2.ownsRow (wr.heap.size + 1) 47 9 (.slice (some ⟨gg, 0, none⟩) (m + 1) cap1) (m + 1) (flatC cs ++ ys)) (hok : ∀ c ∈ cs, CdOk c) (hm : m = cs.length) :
    OZ wr wr.heap.size nr cs a gg cap1 (w2.setCell ⟨wr.heap.size, 1, none⟩ (.slice (some ⟨gg, 0, none⟩) m cap1)) ∧ w2.heap[wr.heap.size]? = some (.cells (ruleC nr sv a) 41 (0, 0)) ∧ m ≤ cap1 :=
  ⟨oz_of (below_next h0 hb) (Nat.le_refl _) hr (fun k hk => (hv.lt k hk).1) hg ho hok hm, row_grown hr hg (fun k hk => (hv.lt k hk).1), by have := (owned_cap ho).1; omega⟩
theorem oz_alloc {wr W1 w1 w2 : World} {o : Obj} {m gg cap1 : Nat} {nr : Int} {cs : List CD} {a : ACT} {sv v : Value} {xs ys : List Value} (h0 : Below wr.heap.size wr W1) (hb : Below W1.heap.size W1 w1) (hr : w1.heap[wr.heap.size]? = some (.cells (ruleC nr sv a) 41 (0, 0))) (hv : w1.ownsRow (wr.heap.size + 1) 47 9 v m xs)
    (hg : (w1.alloc o).grownBy w2 v.ownBlock) (ho : w2.ownsRow (wr.heap.size + 1) 47 9 (.slice (some ⟨gg, 0, none⟩) (m + 1) cap1) (m + 1) (flatC cs ++ ys)) (hok : ∀ c ∈ cs, CdOk c) (hm : m = cs.length) :
    OZ wr wr.heap.size nr cs a gg cap1 (w2.setCell ⟨wr.heap.size, 1, none⟩ (.slice (some ⟨gg, 0, none⟩) m cap1)) ∧ w2.heap[wr.heap.size]? = some (.cells (ruleC nr sv a) 41 (0, 0)) ∧ m ≤ cap1 := by
  have hr2 : (w1.alloc o).heap[wr.heap.size]? = some (.cells (ruleC nr sv a) 41 (0, 0)) := ((box_below w1 o).block _ (Array.getElem?_eq_some_iff.1 hr).1).trans hr
  exact ⟨oz_of (below_next (below_next h0 hb) (box_below w1 o)) (Nat.le_refl _) hr2 (fun k hk => (hv.lt k hk).1) hg ho hok hm, row_grown hr2 hg (fun k hk => (hv.lt k hk).1), by have := (owned_cap ho).1; omega⟩

structure OX (w : World) (oa : Option Addr) (n cap : Nat) (a : ACT) (sv : Value) (X : World) : Prop where
  below : Below w.heap.size w X
  box : X.heap[w.heap.size]? = some (.cells (polC (.slice oa n cap) a) 26 (0, 0))
  res : X.heap[w.heap.size + 1]? = some (.cells (polC (.slice none 0 0) ⟨0, 0⟩) 26 (0, 0))
  row : X.heap[w.heap.size + 2]? = some (.cells (polC sv a) 26 (0, 0))
theorem OX.heap {w : World} {oa : Option Addr} {n cap : Nat} {a : ACT} {sv : Value} {X Y : World} (h : OX w oa n cap a sv X) (ho : Y.os = X.os ∧ Y.tape = X.tape ∧ Y.output = X.output) (hs : X.heap.size ≤ Y.heap.size) (hb : ∀ k, k ≤ w.heap.size + 2 → Y.heap[k]? = X.heap[k]?) : OX w oa n cap a sv Y :=
  ⟨h.below.trans ⟨ho.1, ho.2.1, ho.2.2, hs, fun k hk => hb k (by omega)⟩, (hb _ (by omega)).trans h.box, (hb _ (by omega)).trans h.res, (hb _ (by omega)).trans h.row⟩
theorem OX.lt {w : World} {oa : Option Addr} {n cap : Nat} {a : ACT} {sv : Value} {X : World} (h : OX w oa n cap a sv X) : w.heap.size + 2 < X.heap.size := (Array.getElem?_eq_some_iff.1 h.row).1
theorem OX.on {w : World} {oa : Option Addr} {n cap : Nat} {a : ACT} {sv : Value} {X Y : World} (h : OX w oa n cap a sv X) (hb : Below X.heap.size X Y) : OX w oa n cap a sv Y :=
  h.heap ⟨hb.os, hb.tape, hb.output⟩ hb.size fun k hk => hb.block k (by have := h.lt; omega)
theorem OX.set {w : World} {oa : Option Addr} {n cap : Nat} {a : ACT} {sv : Value} {X : World} (h : OX w oa n cap a sv X) (sv' : Value) : OX w oa n cap a sv' (X.setCell ⟨w.heap.size + 2, 0, none⟩ sv') := by
  rw [setCell_eq_setRow _ _ 0 _ _ _ _ h.row, show (polC sv a).setIfInBounds 0 sv' = polC sv' a from rfl]
  have hb : ∀ k, k ≠ w.heap.size + 2 → (X.setRow (w.heap.size + 2) (polC sv' a)).heap[k]? = X.heap[k]? := fun k hk => row_heap X _ k _ hk
  exact ⟨h.below.trans ⟨rfl, rfl, rfl, by rw [row_size]; exact Nat.le_refl _, fun k hk => hb k (by omega)⟩, (hb _ (by omega)).trans h.box, (hb _ (by omega)).trans h.res, setRow_heap _ _ _ _ _ _ h.row⟩
theorem OX.start (w : World) (oa : Option Addr) (n cap : Nat) (a : ACT) : OX w oa n cap a (.slice none 0 0) (((w.alloc (.cells (polC (.slice oa n cap) a) 26)).alloc (.cells (polC (.slice none 0 0) ⟨0, 0⟩) 26)).alloc (.cells (polC (.slice none 0 0) a) 26)) := by
  obtain ⟨A, hA⟩ : ∃ A, A = w.alloc (.cells (polC (.slice oa n cap) a) 26) := ⟨_, rfl⟩
  have a1 : A.heap[w.heap.size]? = some (.cells (polC (.slice oa n cap) a) 26 (0, 0)) := by rw [hA]; exact heap_alloc_new _ _
  have a2 : Below w.heap.size w A := by rw [hA]; exact box_below _ _
  have a3 : A.heap.size = w.heap.size + 1 := by rw [hA, World.size_alloc]
  rw [← hA]
  obtain ⟨B, hB⟩ : ∃ B, B = A.alloc (.cells (polC (.slice none 0 0) ⟨0, 0⟩) 26) := ⟨_, rfl⟩
  have b1 : B.heap[w.heap.size + 1]? = some (.cells (polC (.slice none 0 0) ⟨0, 0⟩) 26 (0, 0)) := by rw [hB, ← a3]; exact heap_alloc_new _ _
  have b2 : Below A.heap.size A B := by rw [hB]; exact box_below _ _
  have b3 : B.heap.size = w.heap.size + 2 := by rw [hB, World.size_alloc, a3]
  rw [← hB]
  have c2 := box_below B (.cells (polC (.slice none 0 0) a) 26)
  exact ⟨below_next (below_next a2 b2) c2, ((c2.block _ (by omega)).trans (b2.block _ (by omega))).trans a1, (c2.block _ (by omega)).trans b1, by rw [← b3]; exact heap_alloc_new _ _⟩

def RawOk (es : List RE) (X : World) : Prop := ∀ e ∈ es, ∃ b cur, e.2.1 = some ⟨b, 0, none⟩ ∧ X.heap[b]? = some (.cells cur 47 (0, 0))
def OwnsPol (B : Nat) (ob : Option Addr) (cb : Nat) (p : POL) (W : World) : Prop :=
  ∃ es : List RE, es.map (·.1) = p.rules ∧ W.ownsRow (B + 3) 41 4 (.slice ob p.rules.length cb) es.length (flatR es) ∧ CondsOk (B + 2) (.slice ob p.rules.length cb) es W ∧ RawOk es W
set_option maxHeartbeats 8000000 in
set_option maxRecDepth 100000 in
theorem own2_any (p : POL) (hf : p.rules.length ≤ 14) (hc6 : ∀ r ∈ p.rules, r.conds.length ≤ 6) (oa : Option Addr) (cap : Nat) (w : World) (h : IsPol oa cap p w) :
    Calls Tryz.prog 7 #[polV p oa cap] w fun e w' => (∃ ob cb, e = .returned (polV p ob cb) ∧ IsPol ob cb p w' ∧ OwnsPol w.heap.size ob cb p w') ∧ Below w.heap.size w w' := by
  obtain ⟨n, hn⟩ : ∃ n, n = p.rules.length := ⟨_, rfl⟩
  have HC := hide (pol_parts h n hn)
  have HPK := hide h.ok
  clear h
  have h14 : n ≤ 14 := by omega
  have H6 := hide hc6
  clear hc6 hf
  obtain ⟨rs, ⟨ak, ae⟩⟩ := p
  have HPV := hide (show ∀ ob cb, polV ⟨rs, ⟨ak, ae⟩⟩ ob cb = .agg #[.slice ob n cb, .int .i64 ak, .int .i64 ae] from fun ob cb => by unfold polV; simp only at hn ⊢; rw [← hn])
  rw [HPV.out]
  simp only at HC hn H6
  have HN := hide hn
  have HL := hide (show ∀ i, i < n → ∃ c, rs[i]? = some c ∧ rs.take (i + 1) = rs.take i ++ [c] from fun i h => take_next (by omega))
  clear hn
  have HO0 := hide (OX.start w oa n cap ⟨ak, ae⟩)
  unfold polC at HO0
  simp only at HO0
  obtain ⟨V, hV⟩ : ∃ V, V = ((w.alloc (.cells #[.slice oa n cap, .int .i64 ak, .int .i64 ae] 26)).alloc (.cells #[.slice none 0 0, .int .i64 0, .int .i64 0] 26)).alloc (.cells #[.slice none 0 0, .int .i64 ak, .int .i64 ae] 26) := ⟨_, rfl⟩
  rw [← hV] at HO0
  go_enter Tryz.func7, Tryz.ntmps7
  go_wp2
  rw [← hV]
  clear hV
  go_loopw [4] (fun I w' => ∃ (i : Nat) (es : List RE) (sv : Value), i ≤ n ∧ I = .int .i64 i ∧ Hid (OX w oa n cap ⟨ak, ae⟩ sv w') ∧ Hid (w'.ownsRow (w.heap.size + 3) 41 4 sv es.length (flatR es)) ∧ Hid (CondsOk (w.heap.size + 2) sv es w') ∧ Hid (es.map (·.1) = rs.take i) ∧ Hid (es.length = i) ∧ Hid (RawOk es w')) (fun I _ => n - (intOf I).toNat)
  case atStart => exact ⟨0, [], .slice none 0 0, by omega, rfl, HO0, hide (World.ownsRow_nil _ _ _ _), hide (fun e he => by cases he), hide (by simp), hide rfl, hide (fun e he => by cases he)⟩
  case round =>
    obtain ⟨i, es, sv, hi, rfl, HX, HO, HK, HI, HEL, HRW⟩ := hrel
    clear HO0
    have b0 : wr.cell? ⟨w.heap.size, 0, none⟩ = some (.slice oa n cap) := cell_of_row _ _ 0 _ _ _ HX.out.box
    have lX := HX.out.lt
    by_cases hlt : i < n
    · obtain ⟨c, hcs, hcat⟩ := HL.out i hlt
      obtain ⟨b, off, rfl, hbw, HA⟩ := HC.out (by omega)
      obtain ⟨ca, cc, hR0⟩ := HA.out i c hcs
      have hR := hR0.on hbw HX.out.below
      obtain ⟨m, hm⟩ : ∃ m, m = c.conds.length := ⟨_, rfl⟩
      have hm6 : m ≤ 6 := by rw [hm]; exact H6.out c (List.mem_of_getElem? hcs)
      have HROK := hide hR.ok
      have HTK := hide hcat
      have HM := hide hm
      obtain ⟨W1, hW1, hW1b, hW1h, hW1s⟩ : ∃ V, V = wr.alloc (.cells #[.int .i64 c.nr, .slice ca m cc, .int .i64 c.act.kind, .int .i64 c.act.errno] 41) ∧ Below wr.heap.size wr V ∧ V.heap[wr.heap.size]? = some (.cells (ruleC c.nr (.slice ca m cc) c.act) 41 (0, 0)) ∧ V.heap.size = wr.heap.size + 1 := ⟨_, rfl, box_below _ _, heap_alloc_new _ _, by rw [World.size_alloc]⟩
      have HIC : Hid (IsConds ca c.conds W1) := hide (hR.conds.on hW1b)
      have HW1 : Hid (Below wr.heap.size wr W1) := hide hW1b
      have HR1 : Hid (W1.heap[wr.heap.size]? = some (.cells (ruleC c.nr (.slice ca m cc) c.act) 41 (0, 0))) := hide hW1h
      have r1 : W1.drew.cell? ⟨wr.heap.size, 1, none⟩ = some (.slice ca m cc) := cell_of_row _ _ 1 _ _ _ HR1.out
      have f1 : W1.drew.frozen? ⟨wr.heap.size, 1, none⟩ = false := frozen_of_row _ _ 1 _ _ HR1.out
      have r1b : (W1.alloc (.cells #[.int .i64 0, .int .i64 77, .int .u64 0, .int .u64 0, .string ⟨#[]⟩, .int .u32 0, .int .i64 0, .int .i64 0, .int .i64 0] 47)).drew.cell? ⟨wr.heap.size, 1, none⟩ = some (.slice ca m cc) := keep_cell (box_below W1 _).drew (cell_of_row _ _ 1 _ _ _ HR1.out)
      have l1 : wr.heap.size < W1.heap.size := by omega
      have L1 := hide hW1s
      obtain ⟨p0, p1, p2, p3, _, _, _, _⟩ := hR
      rw [← hm] at p1
      clear hcs hcat hR0 hm hW1b hW1h hW1s
      obtain ⟨nr, cs, ⟨rk, re⟩⟩ := c
      simp only at p0 p1 p2 p3 hW1 HIC HR1 HROK HM HTK
      obtain ⟨inf, hi0, hz0, hz1, hz2⟩ := info_cond
      go_wp2
      rw [← hW1]
      clear hW1 p0 p1 p2 p3 b0
      have i1 : (0 : Int) ≤ m := by omega
      go_region_law
        (first
          | (refine step_append_conds (by rfl) _ _ (by rfl) (wr.heap.size + 1) (by rfl) ca m cc cs (by rfl) HM.out (by first | exact HIC.out.on (Below.refl _ W1).drew | exact (HIC.out.on (box_below W1 _)).on (Below.refl _ _).drew) (by omega) (by first | (have := L1.out; show _ ≤ W1.heap.size; omega) | (have := L1.out; show _ ≤ (W1.alloc _).heap.size; rw [World.size_alloc]; omega)) ?_; intro v1 w1 ho1 hb1; have HB1 : Hid (Below W1.heap.size W1 w1) := hide (by first | exact drewB hb1 | exact drewA hb1); have HR2 := hide ((HB1.out.block _ l1).trans HR1.out); have r2 : w1.cell? ⟨wr.heap.size, 1, none⟩ = some (.slice ca m cc) := cell_of_row _ _ 1 _ _ _ HR2.out; have l2 : wr.heap.size < w1.heap.size := block_lt_of_cell r2; have HO1 := hide ho1; (first | have HE := hide ((hb1.block W1.heap.size (by show _ < (W1.alloc _).heap.size; rw [World.size_alloc]; exact Nat.lt_succ_self _)).trans (heap_alloc_new W1 _)) | skip); clear ho1 hb1)
          | (refine step_append_lies _ (by rfl) _ _ _ (by rfl) (wr.heap.size + 1) 47 inf _ 9 80 Tryz.underlying39 hi0 hz0 hz1 hz2 rfl (by omega) v1 m (flatC cs) (by rfl) (HO1.out.alloc _)
                ⟨w1.heap.size, 0, none⟩ 1 1 [.int .i64 0, .int .i64 77, .int .u64 0, .int .u64 0, .string ⟨#[]⟩, .int .u32 0, .int .i64 0, .int .i64 0, .int .i64 0] (by rfl) (by rfl) (World.news_of_block (cs := #[.int .i64 0, .int .i64 77, .int .u64 0, .int .u64 0, .string ⟨#[]⟩, .int .u32 0, .int .i64 0, .int .i64 0, .int .i64 0]) (t := 47) (fr := (0, 0)) (heap_alloc_new w1 _)) (by simp [Value.oneCell'])
                (by omega) (by simp only [maxLen]; omega) (by omega) (by rw [World.size_alloc]; omega) (w1.heap.size + 1) (by simp) ?_; intro gg cap1 w2 hown1 hgrow hat hltt; have HZ3 := hide (oz_alloc HW1.out HB1.out HR2.out HO1.out hgrow hown1 HROK.out.conds HM.out); have HZ := hide HZ3.out.1; have hcp := HZ3.out.2.2; have r3 : w2.cell? ⟨wr.heap.size, 1, none⟩ = some (.slice ca m cc) := cell_of_row _ _ 1 _ _ _ HZ3.out.2.1; have f3 : w2.frozen? ⟨wr.heap.size, 1, none⟩ = false := frozen_of_row _ _ 1 _ _ HZ3.out.2.1; have i2 : (m : Int) ≤ cap1 := (by omega); clear hown1 hgrow hat hltt)
          | (refine step_append_lies _ (by rfl) _ _ _ (by rfl) (wr.heap.size + 1) 47 inf _ 9 80 Tryz.underlying39 hi0 hz0 hz1 hz2 rfl (by omega) v1 m (flatC cs) (by rfl) HO1.out
                ⟨W1.heap.size, 0, none⟩ 1 1 [.int .i64 0, .int .i64 77, .int .u64 0, .int .u64 0, .string ⟨#[]⟩, .int .u32 0, .int .i64 0, .int .i64 0, .int .i64 0] (by rfl) (by rfl) (World.news_of_block (cs := #[.int .i64 0, .int .i64 77, .int .u64 0, .int .u64 0, .string ⟨#[]⟩, .int .u32 0, .int .i64 0, .int .i64 0, .int .i64 0]) (t := 47) (fr := (0, 0)) HE.out) (by simp [Value.oneCell'])
                (by omega) (by simp only [maxLen]; omega) (by omega) (by omega) w1.heap.size (by rfl) ?_; intro gg cap1 w2 hown1 hgrow hat hltt; have HZ3 := hide (oz_plain HW1.out HB1.out HR2.out HO1.out hgrow hown1 HROK.out.conds HM.out); have HZ := hide HZ3.out.1; have hcp := HZ3.out.2.2; have r3 : w2.cell? ⟨wr.heap.size, 1, none⟩ = some (.slice ca m cc) := cell_of_row _ _ 1 _ _ _ HZ3.out.2.1; have f3 : w2.frozen? ⟨wr.heap.size, 1, none⟩ = false := frozen_of_row _ _ 1 _ _ HZ3.out.2.1; have i2 : (m : Int) ≤ cap1 := (by omega); clear hown1 hgrow hat hltt))
      all_goals
        refine forget_any (OZ wr wr.heap.size nr cs ⟨rk, re⟩ gg cap1) HZ.out ?_
        intro Z hZ
        have HZZ := hide hZ
        clear hZ HZ HZ3 r3 f3 HR2 r2 l2 HO1 HB1
        have HXZ := hide (HX.out.on HZZ.out.below)
        have HOZ := hide (own_on HO.out HZZ.out.below)
        have m0 : Z.cell? ⟨wr.heap.size, 0, none⟩ = some (.int .i64 nr) := cell_of_row _ _ 0 _ _ _ HZZ.out.row
        have m1 : Z.cell? ⟨wr.heap.size, 1, none⟩ = some (.slice (some ⟨gg, 0, none⟩) m cap1) := by rw [HM.out]; exact cell_of_row _ _ 1 _ _ _ HZZ.out.row
        have m2 : Z.cell? ⟨wr.heap.size, 2, none⟩ = some (.int .i64 rk) := cell_of_row _ _ 2 _ _ _ HZZ.out.row
        have m3 : Z.cell? ⟨wr.heap.size, 3, none⟩ = some (.int .i64 re) := cell_of_row _ _ 3 _ _ _ HZZ.out.row
        have cD : Z.cell? ⟨w.heap.size + 2, 0, none⟩ = some sv := cell_of_row _ _ 0 _ _ _ HXZ.out.row
        have l5 : w.heap.size + 2 < Z.heap.size := HXZ.out.lt
        obtain ⟨infR, hj0, hj1, hj2, hj3⟩ := info_rule
        have hel : es.length ≤ 14 := by have := HEL.out; omega
        go_wp2_with (refine wpList_append_lies _ (by rfl) _ _ _ (by rfl) (w.heap.size + 3) 41 infR _ 4 48 Tryz.underlying22 hj0 hj1 hj2 hj3 rfl (by omega) sv es.length (flatR es) (by rfl) (HOZ.out.alloc _) ⟨Z.heap.size, 0, none⟩ 1 1 [.int .i64 nr, .slice (some ⟨gg, 0, none⟩) m cap1, .int .i64 rk, .int .i64 re] (by rfl) (by rfl) (World.news_of_block (cs := #[.int .i64 nr, .slice (some ⟨gg, 0, none⟩) m cap1, .int .i64 rk, .int .i64 re]) (t := 41) (fr := (0, 0)) (heap_alloc_new Z _)) (by simp [Value.oneCell']) (by omega) (by simp only [maxLen]; omega) (by omega) (by rw [World.size_alloc]; omega) (Z.heap.size + 1) (by simp) ?_; intro g7 cap7 w7 hown7 hgrow7 hat7 hlt7; have HG7 := hide (And.intro hown7 (And.intro hgrow7 (And.intro hat7 hlt7))); have HW7 := hide (HXZ.out.heap (Y := w7) ⟨hgrow7.os, hgrow7.tape, hgrow7.output⟩ (Nat.le_trans (box_below Z _).size hgrow7.size) (fun k hk => (hgrow7.block k (by rw [World.size_alloc]; omega) (fun e1 => by have := (HOZ.out.lt k e1.symm).1; omega)).trans ((box_below Z _).block k (by omega)))); have cE : w7.cell? ⟨w.heap.size + 2, 0, none⟩ = some sv := cell_of_row _ _ 0 _ _ _ HW7.out.row; have fE : w7.frozen? ⟨w.heap.size + 2, 0, none⟩ = false := frozen_of_row _ _ 0 _ _ HW7.out.row; clear hown7 hgrow7 hat7 hlt7)
        have HS2 := hide (HW7.out.set (.slice (some ⟨g7, 0, none⟩) (es.length + 1) cap7))
        have HO2 := hide (own_but (r := w.heap.size + 2) (V := w7.setCell ⟨w.heap.size + 2, 0, none⟩ (.slice (some ⟨g7, 0, none⟩) (es.length + 1) cap7)) HG7.out.1 (But.set (w.heap.size + 2) 0 w7 _) (by omega))
        have HK2 := hide (condsOk_more (e := (⟨nr, cs, ⟨rk, re⟩⟩, some ⟨gg, 0, none⟩, cap1)) (gg := g7) (n := es.length + 1) (cap := cap7) HK.out HZZ.out.below ⟨HROK.out, HZZ.out.conds, HZZ.out.le, HZZ.out.cap, fun b off e0 => by
          simp only [Option.some.injEq, Addr.mk.injEq] at e0
          have := HZZ.out.lt
          omega⟩ HX.out.lt (fun k hk => (HO.out.lt k hk).2) HG7.out.2.1 HG7.out.2.2.1 (w7.setCell ⟨w.heap.size + 2, 0, none⟩ (.slice (some ⟨g7, 0, none⟩) (es.length + 1) cap7)) (fun k hk => Below.heap_setCell _ _ _ _ hk) (But.set (w.heap.size + 2) 0 w7 _).size)
        have HRW2 : Hid (RawOk (es ++ [((⟨nr, cs, ⟨rk, re⟩⟩ : RL), (some ⟨gg, 0, none⟩ : Option Addr), cap1)]) (w7.setCell ⟨w.heap.size + 2, 0, none⟩ (.slice (some ⟨g7, 0, none⟩) (es.length + 1) cap7))) := hide (fun e he => by
          have hVZ : ∀ b, w.heap.size + 2 < b → sv.ownBlock ≠ some b → b < Z.heap.size → (w7.setCell ⟨w.heap.size + 2, 0, none⟩ (.slice (some ⟨g7, 0, none⟩) (es.length + 1) cap7)).heap[b]? = Z.heap[b]? := fun b h1 h2 h3 => (Below.heap_setCell w7 ⟨w.heap.size + 2, 0, none⟩ _ b (by show b ≠ w.heap.size + 2; omega)).trans ((HG7.out.2.1.block b (by rw [World.size_alloc]; omega) (fun e => h2 e.symm)).trans ((box_below Z _).block b h3))
          rcases List.mem_append.1 he with h1 | h1
          · obtain ⟨b, cur, h2, h3⟩ := HRW.out e h1
            obtain ⟨_, _, _, _, q5⟩ := HK.out e h1
            have h5 := q5 b 0 h2
            exact ⟨b, cur, h2, (hVZ b h5.1 h5.2.1 (Nat.lt_of_lt_of_le h5.2.2 HZZ.out.below.size)).trans ((HZZ.out.below.block b h5.2.2).trans h3)⟩
          · rw [List.mem_singleton.1 h1]
            obtain ⟨cur, h3⟩ := HZZ.out.own
            exact ⟨gg, cur, rfl, (hVZ gg (by have := HZZ.out.lt; have := HX.out.lt; omega) (fun e => by have := (HO.out.lt _ e).2; have := HZZ.out.lt; omega) HZZ.out.lt.2).trans h3⟩)
        have HI2 := hide (show (es ++ [((⟨nr, cs, ⟨rk, re⟩⟩ : RL), (some ⟨gg, 0, none⟩ : Option Addr), cap1)]).map (·.1) = rs.take (i + 1) by rw [HTK.out, List.map_append, HI.out]; rfl)
        have HEL2 := hide (show (es ++ [((⟨nr, cs, ⟨rk, re⟩⟩ : RL), (some ⟨gg, 0, none⟩ : Option Addr), cap1)]).length = i + 1 by rw [List.length_append, List.length_singleton, HEL.out])
        replace HO2 : Hid ((w7.setCell ⟨w.heap.size + 2, 0, none⟩ (.slice (some ⟨g7, 0, none⟩) (es.length + 1) cap7)).ownsRow (w.heap.size + 3) 41 4 (.slice (some ⟨g7, 0, none⟩) (es.length + 1) cap7) (es ++ [((⟨nr, cs, ⟨rk, re⟩⟩ : RL), (some ⟨gg, 0, none⟩ : Option Addr), cap1)]).length (flatR (es ++ [((⟨nr, cs, ⟨rk, re⟩⟩ : RL), (some ⟨gg, 0, none⟩ : Option Addr), cap1)]))) := hide (by
          rw [List.length_append, List.length_singleton, flatR_snoc]
          have := HO2.out
          rw [HM.out] at this
          exact this)
        clear cD cE fE l5 HG7 HW7 HXZ HOZ m0 m1 m2 m3 HZZ
        go_wp2
        go_round
        case rel => exact ⟨i + 1, _, _, by omega, by go_num, HS2, HO2, HK2, HI2, HEL2, HRW2⟩
        case measure => simp [intOf]; omega
    · obtain rfl : i = n := by omega
      have HEQ := hide (show es.map (·.1) = rs by rw [HI.out, List.take_of_length_le (by rw [HN.out]; exact Nat.le_refl _)])
      have c0 : wr.cell? ⟨w.heap.size + 2, 0, none⟩ = some sv := cell_of_row _ _ 0 _ _ _ HX.out.row
      have c1 : wr.cell? ⟨w.heap.size + 2, 1, none⟩ = some (.int .i64 ak) := cell_of_row _ _ 1 _ _ _ HX.out.row
      have c2 : wr.cell? ⟨w.heap.size + 2, 2, none⟩ = some (.int .i64 ae) := cell_of_row _ _ 2 _ _ _ HX.out.row
      obtain ⟨oc, cc, hsv, hcl, hcm, _⟩ := rules_owned HO.out HK.out
      subst hsv
      have hres := HX.out.res
      obtain ⟨rc, hrc⟩ : ∃ rc : Array Value, rc = polC (.slice oc es.length cc) ⟨ak, ae⟩ := ⟨_, rfl⟩
      have h1c : rc.all (·.oneCell') = true := by rw [hrc]; simp [polC, Value.oneCell']
      go_wp2_with (refine wpList_store_row rfl 26 _ _ rfl (w.heap.size + 1) rc rfl (by rw [hrc]; rfl) 26 _ hres (by rw [hrc]; exact size_pol) (by rw [hrc]; rfl) h1c ?_)
      have hb1 : ∀ k, k ≠ w.heap.size + 1 → (wr.setRow (w.heap.size + 1) rc).heap[k]? = wr.heap[k]? := fun k hk => row_heap wr _ k _ hk
      have hBt : But (w.heap.size + 1) wr (wr.setRow (w.heap.size + 1) rc) := ⟨rfl, rfl, rfl, by rw [row_size]; exact Nat.le_refl _, fun k _ hn => hb1 k hn⟩
      refine bodyPost_ret (v := .agg rc) (results_cell_row rfl _ _ (w.heap.size + 1) 26 rc (0, 0) _ rfl (setRow_heap _ _ _ _ _ _ hres) Tryz.underlying26 rfl (by rw [hrc]; exact size_pol)) rfl ⟨?_, hBt.below HX.out.below (by omega) HX.out.below.size⟩
      have hO2 := HO.out.kept hBt.grown (by
        by_cases he : (Value.slice oc es.length cc).ownBlock = some (w.heap.size + 1)
        · have := (HO.out.lt _ he).1
          omega
        · exact .inr he)
      have hK2 : CondsOk (w.heap.size + 2) (.slice oc es.length cc) es (wr.setRow (w.heap.size + 1) rc) := fun e he => by
        obtain ⟨q1, q2, q3, q4, q5⟩ := HK.out e he
        refine ⟨q1, q2.heap (fun b off e0 _ => hb1 b (by have := q5 b off e0; omega)) (by rw [row_size]; exact Nat.le_refl _), q3, q4, fun b off e0 => ?_⟩
        rw [row_size]
        exact q5 b off e0
      obtain ⟨oc', cc', hsv', _, _, hIR⟩ := rules_owned hO2 hK2
      simp only [Value.slice.injEq] at hsv'
      obtain ⟨rfl, _, rfl⟩ := hsv'
      rw [HEQ.out] at hIR
      have hRW3 : RawOk es (wr.setRow (w.heap.size + 1) rc) := fun e he => by
        obtain ⟨b, cur, h2, h3⟩ := HRW.out e he
        obtain ⟨_, _, _, _, q5⟩ := HK.out e he
        have h5 := q5 b 0 h2
        exact ⟨b, cur, h2, (hb1 b (by omega)).trans h3⟩
      have hlen : rs.length = es.length := by rw [← HN.out, ← HEL.out]
      refine ⟨oc, cc, by rw [hrc, HPV.out]; unfold polC; simp only; rw [HEL.out], ⟨hIR, by simp only; rw [← HN.out, ← HEL.out]; exact hcl, hcm, HPK.out⟩, es, HEQ.out, ?_, ?_, hRW3⟩
      · simp only
        rw [hlen]
        exact hO2
      · simp only
        rw [hlen]
        exact hK2
end Go.Proofs.YtklibmijiecbfaaGreat
