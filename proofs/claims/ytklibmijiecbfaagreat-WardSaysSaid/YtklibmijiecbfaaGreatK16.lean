/- The builtin copy, of elements of many cells. -/
import Derived.Test.YtklibmijiecbfaaGreatK7
import Derived.Laws.CopyRow
import Derived.Laws.OwnMore
import Derived.Test.YtklibmijiecbfaaGreatK5
import Derived.BigQuiet
import Derived.Laws.AppendOwnNone
import Derived.Test.YtklibmijiecbfaaGreatK8
import Derived.Laws.MakeOwn
import Derived.Test.YtklibmijiecbfaaGreatK9
namespace Go.Proofs.YtklibmijiecbfaaGreat
open Go.RowKit Mm

theorem run_copy_wide (P : Program) (w : World) (dT sT ty elem : TypeId) (sz g o dLen dCap : Nat) (a : Addr) (sLen sCap : Nat) (cur : Array Value) (t : TypeId) (cs : List Value) (k : Nat)
    (hu : P.underlying dT = some (.slice elem)) (hs : (P.info? elem).map (·.size) = some sz)
    (hg : w.heap[g]? = some (.cells cur t (0, 0))) (hk : k = Nat.min sLen dLen) (hn : cs.length = k * sz)
    (hsrc : ∀ j v, cs[j]? = some v → w.cell? (a.add j) = some v) (hfit : o + cs.length ≤ cur.size) (h1 : ∀ v ∈ cs, v.oneCell' = true) :
    (Builtin.copy_ #[dT, sT] ty #[.slice (some ⟨g, o, none⟩) dLen dCap, .slice (some a) sLen sCap]).run P w =
      .ok (goInt k) (w.setRow g (cur.toList.take o ++ cs ++ cur.toList.drop (o + cs.length)).toArray) := by
  have hl := run_loadCells_list (P := P) w a cs hsrc
  have hst := run_storeCells_at P g o t cs 0 cur w hg (by simpa using hfit) h1
  cases hq : P.info? elem with
  | none => simp [hq] at hs
  | some i =>
    have hi : i.size = sz := by simpa [hq] using hs
    simp [Builtin.copy_, run_underlying hu, Builtin.lenOf, Builtin.firstCells, sizeOf, typeInfo, hq, hi, ← hk, ← hn, hl, hst]
theorem wpList_copy_wide {P : Program} {w : World} {ops : Array Oper} {rest : List Oper} {o : Oper} {a : Act} {Q : Exit → Act → World → Prop} (hgd : o.guard = none) (d s : Operand) (dT sT : TypeId)
    (ho : o.op = .call { callee := .builtin .copy, args := #[d, s], argTypes := #[dT, sT] }) (elem : TypeId) (sz : Nat) (hu : P.underlying dT = some (.slice elem)) (hsz : (P.info? elem).map (·.size) = some sz)
    (g k dCap : Nat) (ad : Addr) (sCap : Nat) (hd : a.eval d = .slice (some ⟨g, 0, none⟩) k dCap) (hs : a.eval s = .slice (some ad) k sCap)
    (cur : Array Value) (t : TypeId) (hg : w.heap[g]? = some (.cells cur t (0, 0))) (cs : List Value) (hn : cs.length = k * sz) (hcur : cur.size = k * sz)
    (hsrc : ∀ j v, cs[j]? = some v → w.cell? (ad.add j) = some v) (h1 : ∀ v ∈ cs, v.oneCell' = true)
    (h : wpList P ops Q rest (a.put o.dst (goInt k)) (w.setRow g cs.toArray)) : wpList P ops Q (o :: rest) a w := by
  refine wpList_plain hgd fun K hK => ?_
  have hrun := run_copy_wide P w dT sT o.type elem sz g 0 k dCap ad k sCap cur t cs k hu hsz hg (Nat.min_self k).symm hn hsrc (by omega) h1
  rw [List.take_zero, List.nil_append, Nat.zero_add, List.drop_eq_nil_of_le (by simp; omega), List.append_nil] at hrun
  unfold Oper.wp
  simp [execOp, ho, resolve, invoke, builtin, hd, hs, hrun, Result.andThen]
  exact hK _ _ h
theorem wpList_copy_none0 {P : Program} {w : World} {ops : Array Oper} {rest : List Oper} {o : Oper} {a : Act} {Q : Exit → Act → World → Prop} (hgd : o.guard = none) (d s : Operand) (dT sT : TypeId)
    (ho : o.op = .call { callee := .builtin .copy, args := #[d, s], argTypes := #[dT, sT] }) (elem : TypeId) (sz : Nat) (hu : P.underlying dT = some (.slice elem)) (hsz : (P.info? elem).map (·.size) = some sz)
    (ad : Addr) (k dCap : Nat) (hd : a.eval d = .slice (some ad) k dCap) (hs : a.eval s = .slice none 0 0)
    (h : wpList P ops Q rest (a.put o.dst (goInt 0)) w) : wpList P ops Q (o :: rest) a w := by
  refine wpList_plain hgd fun K hK => ?_
  have hrun := run_copy_nil P w dT sT o.type elem ad k dCap hu (by rw [hsz]; rfl)
  unfold Oper.wp
  simp [execOp, ho, resolve, invoke, builtin, hd, hs, hrun, Result.andThen]
  exact hK _ _ h
end Go.Proofs.YtklibmijiecbfaaGreat

/- LightPolicy, LightValues. -/
namespace Go.Proofs.YtklibmijiecbfaaGreat
open Go.RowKit Go.Sort

def lightC (c : CD) : Bool := decide (c.glob.size ≤ 60)
def lightR (r : RL) : Bool := decide (r.conds.length ≤ 6) && r.conds.all lightC
def lightB (p : POL) : Bool := decide (p.rules.length ≤ 14) && p.rules.all lightR
set_option maxHeartbeats 4000000 in
theorem lightPol_any (p : POL) (oa : Option Addr) (cap : Nat) (w : World) (h : IsPol oa cap p w) :
    Calls Tryz.prog 5 #[polV p oa cap] w fun e w' => e = .returned (.bool (lightB p)) ∧ Below w.heap.size w w' := by
  obtain ⟨n, hn⟩ : ∃ n, n = p.rules.length := ⟨_, rfl⟩
  have HC := hide (pol_parts h n hn)
  have hmax : n ≤ 9223372036854775807 := by have h1 := h.le; have h2 := h.cap; unfold maxLen at h2; omega
  clear h
  obtain ⟨rs, ⟨ak, ae⟩⟩ := p
  unfold polV
  simp only at HC hn ⊢
  rw [← hn]
  have HZ := hide (show lightB ⟨rs, ⟨ak, ae⟩⟩ = (decide (n ≤ 14) && rs.all lightR) by rw [hn]; rfl)
  obtain ⟨z, hz⟩ : ∃ z, z = lightB ⟨rs, ⟨ak, ae⟩⟩ := ⟨_, rfl⟩
  rw [← hz] at HZ ⊢
  have HN := hide hn
  have HL := hide (show ∀ i, i < n → ∃ c, rs[i]? = some c ∧ rs.take (i + 1) = rs.take i ++ [c] from fun i h => take_next (by omega))
  clear hn hz
  obtain ⟨V, hV, hB, hsz, hx⟩ := one_box w #[.slice oa n cap, .int .i64 ak, .int .i64 ae] 26
  have x0 := hx 0
  simp only [List.getElem?_toArray, List.getElem?_cons_zero] at x0
  clear hx
  by_cases h14 : 14 < n
  · have HF := hide (show z = false by rw [HZ.out, decide_eq_false (by omega), Bool.false_and])
    go_enter Tryz.func5, Tryz.ntmps5
    go_wp2
    go_ret
    exact ⟨ret_bool HF.out.symm, box_below _ _⟩
  have HZ2 := hide (show z = rs.all lightR by rw [HZ.out, decide_eq_true (by omega), Bool.true_and])
  clear HZ
  go_enter Tryz.func5, Tryz.ntmps5
  go_wp2
  rw [← hV]
  clear hV
  go_loopw [3] (fun I w' => ∃ i : Nat, i ≤ n ∧ I = .int .i64 i ∧ Hid ((rs.take i).all lightR = true) ∧ w' = V) (fun I _ => n - (intOf I).toNat)
  case atStart => exact ⟨0, by omega, rfl, hide rfl, rfl⟩
  case round =>
    obtain ⟨i, hi, rfl, HG, hwr⟩ := hrel
    replace hwr := hwr.symm
    subst hwr
    by_cases hlt : i < n
    · obtain ⟨c, hcs, hcat⟩ := HL.out i hlt
      obtain ⟨b, off, rfl, hbw, HA⟩ := HC.out (by omega)
      obtain ⟨ca, cc, hR0⟩ := HA.out i c hcs
      have hR := hR0.on hbw hB
      clear hR0
      have k1 := hR.k1
      have HQ := hide (all_take_snoc (f := lightR) hcat HG.out)
      obtain ⟨m, hm⟩ : ∃ m, m = c.conds.length := ⟨_, rfl⟩
      rw [← hm] at k1
      have HCC := hide (conds_parts hR.conds m hm)
      have hmm : m ≤ 9223372036854775807 := by have h1 := hR.le; have h2 := hR.cap; unfold maxLen at h2; omega
      have HLR := hide (show lightR c = (decide (m ≤ 6) && c.conds.all lightC) by rw [hm]; rfl)
      have HCL := hide (show ∀ j, j < m → ∃ x, c.conds[j]? = some x ∧ c.conds.take (j + 1) = c.conds.take j ++ [x] from fun j h => take_next (by omega))
      have HM := hide hm
      clear hm hR hcs hcat
      by_cases h6 : 6 < m
      · have HF := hide (show z = false by
          rw [HZ2.out]
          refine all_take_false (i := i + 1) ?_
          rw [HQ.out, HLR.out, decide_eq_false (by omega), Bool.false_and])
        go_wp2
        go_ret
        exact ⟨ret_bool HF.out.symm, hB⟩
      have HLR2 := hide (show lightR c = c.conds.all lightC by rw [HLR.out, decide_eq_true (by omega), Bool.true_and])
      clear HLR
      go_wp2
      go_loopw [4] (fun J w' => ∃ j : Nat, j ≤ m ∧ J = .int .i64 j ∧ Hid ((c.conds.take j).all lightC = true) ∧ w' = V) (fun J _ => m - (intOf J).toNat)
      case atStart => exact ⟨0, by omega, rfl, hide rfl, rfl⟩
      case round =>
        obtain ⟨j, hj, rfl, HGJ, hwr⟩ := hrel
        replace hwr := hwr.symm
        subst hwr
        by_cases hjl : j < m
        · obtain ⟨x, hxs, hxcat⟩ := HCL.out j hjl
          obtain ⟨b2, off2, rfl, hbw2, HA2⟩ := HCC.out (by omega)
          have k4 := (HA2.out j x hxs).k4
          have HQ2 := hide (all_take_snoc (f := lightC) hxcat HGJ.out)
          have HLC := hide (show lightC x = decide (x.glob.size ≤ 60) from rfl)
          obtain ⟨gl, hgl⟩ : ∃ g, g = x.glob := ⟨_, rfl⟩
          rw [← hgl] at k4 HLC
          clear hgl hxs hxcat
          by_cases h60 : 60 < gl.size
          · have HF := hide (show z = false by
              rw [HZ2.out]
              refine all_take_false (i := i + 1) ?_
              rw [HQ.out, HLR2.out]
              refine all_take_false (i := j + 1) ?_
              rw [HQ2.out, HLC.out, decide_eq_false (by omega)])
            go_wp2
            go_ret
            exact ⟨ret_bool HF.out.symm, hB⟩
          · replace HQ2 := hide (show (c.conds.take (j + 1)).all lightC = true by rw [HQ2.out, HLC.out, decide_eq_true (by omega)])
            go_wp2
            go_round
            case rel => exact ⟨j + 1, by omega, by go_num, HQ2, trivial⟩
            case measure => simp [intOf]; omega
        · obtain rfl : j = m := by omega
          have HQ3 := hide (show (rs.take (i + 1)).all lightR = true by
            rw [HQ.out, HLR2.out]
            have := HGJ.out
            rwa [List.take_of_length_le (by rw [HM.out]; exact Nat.le_refl _)] at this)
          go_wp2
          go_round
          case rel => exact ⟨i + 1, by omega, by go_num, HQ3, trivial⟩
          case measure => simp [intOf]; omega
    · obtain rfl : i = n := by omega
      have HF := hide (show z = true by
        have := HG.out
        rw [List.take_of_length_le (by rw [HN.out]; exact Nat.le_refl _)] at this
        rw [HZ2.out, this])
      go_wp2
      go_ret
      exact ⟨ret_bool HF.out.symm, hB⟩

end Go.Proofs.YtklibmijiecbfaaGreat

/- SamePolicy, of two that are alike. -/
namespace Go.Proofs.YtklibmijiecbfaaGreat
open Go.RowKit Go.Sort

end Go.Proofs.YtklibmijiecbfaaGreat

/- Own: a policy in its own memory, a mark behind each rule's conds. -/
namespace Go.Proofs.YtklibmijiecbfaaGreat
open Go.RowKit Go.Sort

theorem flatC_one (cs : List CD) : ∀ u ∈ flatC cs, u.oneCell' = true := fun u h => by
  unfold flatC at h
  obtain ⟨c, _, hu⟩ := List.mem_flatMap.1 h
  simp only [condC, List.mem_cons, List.not_mem_nil, or_false] at hu
  rcases hu with rfl | rfl | rfl | rfl | rfl | rfl | rfl | rfl | rfl <;> rfl
theorem add_at (b off j : Nat) : (⟨b, off, none⟩ : Addr).add j = ⟨b, off + j, none⟩ := by unfold Addr.add; split <;> simp_all
theorem flatC_cells {oa : Option Addr} {cs : List CD} {W : World} (h : IsConds oa cs W) {ad : Addr} (ha : oa = some ad) : ∀ j u, (flatC cs)[j]? = some u → W.cell? (ad.add j) = some u := fun j u hu => by
  have hj : j < cs.length * 9 := by rw [← flatC_len cs]; exact (List.getElem?_eq_some_iff.1 hu).1
  obtain ⟨b, off, h1, _, h3⟩ := h.lie (by omega)
  rw [ha] at h1
  obtain rfl := Option.some.inj h1
  obtain ⟨c, hc⟩ : ∃ c, cs[j / 9]? = some c := ⟨_, List.getElem?_eq_getElem (by omega)⟩
  have hI := h3 (j / 9) c hc
  have hg := flatC_get cs (j / 9) c (j % 9) hc (by omega)
  rw [show j / 9 * 9 + j % 9 = j by omega, hu] at hg
  rw [add_at, show off + j = off + j / 9 * 9 + j % 9 by omega, hg]
  have hcc : j % 9 = 0 ∨ j % 9 = 1 ∨ j % 9 = 2 ∨ j % 9 = 3 ∨ j % 9 = 4 ∨ j % 9 = 5 ∨ j % 9 = 6 ∨ j % 9 = 7 ∨ j % 9 = 8 := by omega
  rcases hcc with e | e | e | e | e | e | e | e | e
  · rw [e]; exact hI.k0
  · rw [e]; exact hI.k1
  · rw [e]; exact hI.k2
  · rw [e]; exact hI.k3
  · rw [e]; exact hI.k4
  · rw [e]; exact hI.k5
  · rw [e]; exact hI.k6
  · rw [e]; exact hI.k7
  · rw [e]; exact hI.k8

/-- 'append([]Cond(nil), l...)', as a step of a region that draws. -/
theorem step_append_conds {ops : Array Oper} {o : Oper} {a : Act} {w : World} {K : Act → World → Prop} {Q : Exit → Act → World → Prop} {E : Prop} (hgd : o.guard = none) (s x : Operand)
    (ho : o.op = .call { callee := .builtin .append, args := #[s, x], argTypes := #[39, 39] })
    (base : Nat) (hs : a.eval s = .slice none 0 0) (oa : Option Addr) (n cap : Nat) (cs : List CD) (hx : a.eval x = .slice oa n cap) (hn : n = cs.length) (hP : IsConds oa cs w)
    (hn9 : n ≤ 9) (hbase : base ≤ w.heap.size)
    (h : ∀ v' w', w'.ownsRow base 47 9 v' n (flatC cs) → Below w.heap.size w w' → K (a.put o.dst v') w') :
    if Region.wanted o (yielded ops a.tmps) = true then Oper.wp Tryz.prog o a w K Q else E := by
  have hw : Region.wanted o (yielded ops a.tmps) = true := by simp [Region.wanted, hgd]
  rw [if_pos hw]
  obtain ⟨i, hi, hz, hsz, hby⟩ := info_cond
  have key : ∃ v' w', (Builtin.append_ #[39, 39] o.type #[.slice none 0 0, .slice oa n cap]).run Tryz.prog w = .ok v' w' ∧ w'.ownsRow base 47 9 v' n (flatC cs) ∧ Below w.heap.size w w' := by
    cases oa with
    | none =>
      have h0 : cs.length = 0 := by
        rcases Nat.eq_zero_or_pos cs.length with h | h
        · exact h
        · obtain ⟨_, _, h1, _⟩ := hP.lie h
          cases h1
      obtain rfl := List.length_eq_zero_iff.1 h0
      subst hn
      exact ⟨.slice none 0 0, w, by simp [Builtin.append_, run_underlying Tryz.underlying39, sizeOf, typeInfo, hi, Builtin.lenOf, Builtin.firstCells], World.ownsRow_nil _ _ _ _, Below.refl _ _⟩
    | some ad =>
      obtain ⟨v', w', hr, h2, h3, _, _⟩ := run_append_own_at (P := Tryz.prog) w base 39 o.type 47 i _ 9 80 Tryz.underlying39 hi hz hsz hby rfl (by decide) (.slice none 0 0) 0 [] (World.ownsRow_nil _ _ _ _) ad n cap (flatC cs) (by rw [flatC_len, hn]) (flatC_cells hP rfl) (flatC_one cs) (by simp only [maxLen]; omega) (by omega) hbase
      rw [Nat.zero_add, List.nil_append] at h2
      exact ⟨v', w', hr, h2, (Below.refl _ _).grown h3 (Nat.le_refl _) (fun k hk => by cases hk)⟩
  obtain ⟨v', w', hr, h2, h3⟩ := key
  unfold Oper.wp execOp
  simp only [ho, resolve, invoke, builtin, Sem.run_bind, Sem.run_pure, Result.andThen_ok, List.map_toArray, List.map_cons, List.map_nil, hs, hx, hr]
  exact h v' w' h2 h3

theorem conds_prefix {W : World} {base k cap g : Nat} {cs : List CD} {ys : List Value} (h : W.ownsRow base 47 9 (.slice (some ⟨g, 0, none⟩) k cap) k (flatC cs ++ ys)) (hok : ∀ c ∈ cs, CdOk c) : IsConds (some ⟨g, 0, none⟩) cs W :=
  ⟨fun _ => ⟨g, 0, rfl, (h.lt g rfl).2, fun i c hc => by
    have hi : i < cs.length := (List.getElem?_eq_some_iff.1 hc).1
    have hcell : ∀ j u, j < 9 → (condC c).toList[j]? = some u → W.cell? ⟨g, 0 + i * 9 + j, none⟩ = some u := fun j u hj hu => by
      have h5 := h.cells (g := g) rfl (i * 9 + j) u (by rw [List.getElem?_append_left (by rw [flatC_len]; omega), flatC_get cs i c j hc hj]; exact hu)
      rwa [add_at, ← Nat.add_assoc] at h5
    exact ⟨hcell 0 _ (by omega) rfl, hcell 1 _ (by omega) rfl, hcell 2 _ (by omega) rfl, hcell 3 _ (by omega) rfl, hcell 4 _ (by omega) rfl, hcell 5 _ (by omega) rfl, hcell 6 _ (by omega) rfl, hcell 7 _ (by omega) rfl, hcell 8 _ (by omega) rfl, hok c (List.mem_of_getElem? hc)⟩⟩⟩
theorem owned_cap {W : World} {base n cap g : Nat} {xs : List Value} (h : W.ownsRow base 47 9 (.slice (some ⟨g, 0, none⟩) n cap) n xs) : n ≤ cap ∧ cap ≤ maxLen := by
  rcases h.2 with ⟨h1, _⟩ | ⟨g', cap', cur, h1, _, _, hc, hm, _⟩
  · cases h1
  · cases h1; exact ⟨hc, hm⟩
theorem row_grown {X Y : World} {o : Option Nat} {r : Nat} {x : Obj} (h : X.heap[r]? = some x) (hg : X.grownBy Y o) (hne : ∀ k, o = some k → r + 1 ≤ k) : Y.heap[r]? = some x :=
  (hg.block r (Array.getElem?_eq_some_iff.1 h).1 (fun e => by have := hne r e.symm; omega)).trans h

/-- A rule with conds of its own. -/
structure OZ (wr : World) (r6 : Nat) (nr : Int) (cs : List CD) (a : ACT) (gg cap1 : Nat) (Z : World) : Prop where
  below : Below wr.heap.size wr Z
  row : Z.heap[r6]? = some (.cells (ruleC nr (.slice (some ⟨gg, 0, none⟩) cs.length cap1) a) 41 (0, 0))
  conds : IsConds (some ⟨gg, 0, none⟩) cs Z
  le : cs.length ≤ cap1
  cap : cap1 ≤ maxLen
  lt : r6 < gg ∧ gg < Z.heap.size
  own : ∃ cur, Z.heap[gg]? = some (.cells cur 47 (0, 0))
theorem oz_of {wr X Y : World} {r6 m gg cap1 : Nat} {nr : Int} {cs : List CD} {a : ACT} {sv v : Value} {ys : List Value} (h0 : Below wr.heap.size wr X) (h6 : wr.heap.size ≤ r6) (hr : X.heap[r6]? = some (.cells (ruleC nr sv a) 41 (0, 0))) (hv : ∀ k, v.ownBlock = some k → r6 + 1 ≤ k)
    (hg : X.grownBy Y v.ownBlock) (ho : Y.ownsRow (r6 + 1) 47 9 (.slice (some ⟨gg, 0, none⟩) (m + 1) cap1) (m + 1) (flatC cs ++ ys)) (hok : ∀ c ∈ cs, CdOk c) (hm : m = cs.length) :
    OZ wr r6 nr cs a gg cap1 (Y.setCell ⟨r6, 1, none⟩ (.slice (some ⟨gg, 0, none⟩) m cap1)) := by
  have hY := row_grown hr hg hv
  have hl := ho.lt gg rfl
  have hc := owned_cap ho
  have hXY : Below wr.heap.size wr Y := h0.trans ⟨hg.os, hg.tape, hg.output, hg.size, fun k hk => hg.block k (Nat.lt_of_lt_of_le hk h0.size) (fun e => by have := hv k e.symm; omega)⟩
  have hB := But.set r6 1 Y (.slice (some ⟨gg, 0, none⟩) m cap1)
  refine ⟨hB.below hXY h6 hXY.size, ?_, ?_, by omega, hc.2, ⟨by omega, Nat.lt_of_lt_of_le hl.2 hB.size⟩, ?_⟩
  · rw [setCell_eq_setRow _ _ 1 _ _ _ _ hY, setRow_heap _ _ _ _ _ _ hY, hm]
    rfl
  · exact (conds_prefix ho hok).heap (fun b off e hb => hB.block b hb (by simp only [Option.some.injEq, Addr.mk.injEq] at e; omega)) hB.size
  · rcases ho.2 with ⟨h1, _⟩ | ⟨g', cap', cur, h1, _, h2, _⟩
    · cases h1
    · cases h1
      exact ⟨cur, (hB.block gg hl.2 (by omega)).trans h2⟩

theorem oz_plain {wr W1 w1 w2 : World} {m gg cap1 : Nat} {nr : Int} {cs : List CD} {a : ACT} {sv v : Value} {xs ys : List Value} (h0 : Below wr.heap.size wr W1) (hb : Below W1.heap.size W1 w1) (hr : w1.heap[wr.heap.size]? = some (.cells (ruleC nr sv a) 41 (0, 0))) (hv : w1.ownsRow (wr.heap.size + 1) 47 9 v m xs)
    (hg : w1.grownBy w2 v.ownBlock) (ho : w2.ownsRow (wr.heap.size + 1) 47 9 (.slice (some ⟨gg, 0, none⟩) (m + 1) cap1) (m + 1) (flatC cs ++ ys)) (hok : ∀ c ∈ cs, CdOk c) (hm : m = cs.length) :
    OZ wr wr.heap.size nr cs a gg cap1 (w2.setCell ⟨wr.heap.size, 1, none⟩ (.slice (some ⟨gg, 0, none⟩) m cap1)) ∧ w2.heap[wr.heap.size]? = some (.cells (ruleC nr sv a) 41 (0, 0)) ∧ m ≤ cap1 :=
  ⟨oz_of (below_next h0 hb) (Nat.le_refl _) hr (fun k hk => (hv.lt k hk).1) hg ho hok hm, row_grown hr hg (fun k hk => (hv.lt k hk).1), by have := (owned_cap ho).1; omega⟩
theorem oz_alloc {wr W1 w1 w2 : World} {o : Obj} {m gg cap1 : Nat} {nr : Int} {cs : List CD} {a : ACT} {sv v : Value} {xs ys : List Value} (h0 : Below wr.heap.size wr W1) (hb : Below W1.heap.size W1 w1) (hr : w1.heap[wr.heap.size]? = some (.cells (ruleC nr sv a) 41 (0, 0))) (hv : w1.ownsRow (wr.heap.size + 1) 47 9 v m xs)
    (hg : (w1.alloc o).grownBy w2 v.ownBlock) (ho : w2.ownsRow (wr.heap.size + 1) 47 9 (.slice (some ⟨gg, 0, none⟩) (m + 1) cap1) (m + 1) (flatC cs ++ ys)) (hok : ∀ c ∈ cs, CdOk c) (hm : m = cs.length) :
    OZ wr wr.heap.size nr cs a gg cap1 (w2.setCell ⟨wr.heap.size, 1, none⟩ (.slice (some ⟨gg, 0, none⟩) m cap1)) ∧ w2.heap[wr.heap.size]? = some (.cells (ruleC nr sv a) 41 (0, 0)) ∧ m ≤ cap1 := by
  have hr2 : (w1.alloc o).heap[wr.heap.size]? = some (.cells (ruleC nr sv a) 41 (0, 0)) := ((box_below w1 o).block _ (Array.getElem?_eq_some_iff.1 hr).1).trans hr
  exact ⟨oz_of (below_next (below_next h0 hb) (box_below w1 o)) (Nat.le_refl _) hr2 (fun k hk => (hv.lt k hk).1) hg ho hok hm, row_grown hr2 hg (fun k hk => (hv.lt k hk).1), by have := (owned_cap ho).1; omega⟩

/-- The world in the midst of Own. -/
structure OX (w : World) (oa : Option Addr) (n cap : Nat) (a : ACT) (sv : Value) (X : World) : Prop where
  below : Below w.heap.size w X
  box : X.heap[w.heap.size]? = some (.cells (polC (.slice oa n cap) a) 26 (0, 0))
  res : X.heap[w.heap.size + 1]? = some (.cells (polC (.slice none 0 0) ⟨0, 0⟩) 26 (0, 0))
  row : X.heap[w.heap.size + 2]? = some (.cells (polC sv a) 26 (0, 0))
theorem OX.heap {w : World} {oa : Option Addr} {n cap : Nat} {a : ACT} {sv : Value} {X Y : World} (h : OX w oa n cap a sv X) (ho : Y.os = X.os ∧ Y.tape = X.tape ∧ Y.output = X.output) (hs : X.heap.size ≤ Y.heap.size) (hb : ∀ k, k ≤ w.heap.size + 2 → Y.heap[k]? = X.heap[k]?) : OX w oa n cap a sv Y :=
  ⟨h.below.trans ⟨ho.1, ho.2.1, ho.2.2, hs, fun k hk => hb k (by omega)⟩, (hb _ (by omega)).trans h.box, (hb _ (by omega)).trans h.res, (hb _ (by omega)).trans h.row⟩
theorem OX.lt {w : World} {oa : Option Addr} {n cap : Nat} {a : ACT} {sv : Value} {X : World} (h : OX w oa n cap a sv X) : w.heap.size + 2 < X.heap.size := (Array.getElem?_eq_some_iff.1 h.row).1
theorem OX.on {w : World} {oa : Option Addr} {n cap : Nat} {a : ACT} {sv : Value} {X Y : World} (h : OX w oa n cap a sv X) (hb : Below X.heap.size X Y) : OX w oa n cap a sv Y :=
  h.heap ⟨hb.os, hb.tape, hb.output⟩ hb.size fun k hk => hb.block k (by have := h.lt; omega)
theorem OX.set {w : World} {oa : Option Addr} {n cap : Nat} {a : ACT} {sv : Value} {X : World} (h : OX w oa n cap a sv X) (sv' : Value) : OX w oa n cap a sv' (X.setCell ⟨w.heap.size + 2, 0, none⟩ sv') := by
  rw [setCell_eq_setRow _ _ 0 _ _ _ _ h.row, show (polC sv a).setIfInBounds 0 sv' = polC sv' a from rfl]
  have hb : ∀ k, k ≠ w.heap.size + 2 → (X.setRow (w.heap.size + 2) (polC sv' a)).heap[k]? = X.heap[k]? := fun k hk => row_heap X _ k _ hk
  exact ⟨h.below.trans ⟨rfl, rfl, rfl, by rw [row_size]; exact Nat.le_refl _, fun k hk => hb k (by omega)⟩, (hb _ (by omega)).trans h.box, (hb _ (by omega)).trans h.res, setRow_heap _ _ _ _ _ _ h.row⟩
theorem OX.start (w : World) (oa : Option Addr) (n cap : Nat) (a : ACT) : OX w oa n cap a (.slice none 0 0) (((w.alloc (.cells (polC (.slice oa n cap) a) 26)).alloc (.cells (polC (.slice none 0 0) ⟨0, 0⟩) 26)).alloc (.cells (polC (.slice none 0 0) a) 26)) := by
  obtain ⟨A, hA⟩ : ∃ A, A = w.alloc (.cells (polC (.slice oa n cap) a) 26) := ⟨_, rfl⟩
  have a1 : A.heap[w.heap.size]? = some (.cells (polC (.slice oa n cap) a) 26 (0, 0)) := by rw [hA]; exact heap_alloc_new _ _
  have a2 : Below w.heap.size w A := by rw [hA]; exact box_below _ _
  have a3 : A.heap.size = w.heap.size + 1 := by rw [hA, World.size_alloc]
  rw [← hA]
  obtain ⟨B, hB⟩ : ∃ B, B = A.alloc (.cells (polC (.slice none 0 0) ⟨0, 0⟩) 26) := ⟨_, rfl⟩
  have b1 : B.heap[w.heap.size + 1]? = some (.cells (polC (.slice none 0 0) ⟨0, 0⟩) 26 (0, 0)) := by rw [hB, ← a3]; exact heap_alloc_new _ _
  have b2 : Below A.heap.size A B := by rw [hB]; exact box_below _ _
  have b3 : B.heap.size = w.heap.size + 2 := by rw [hB, World.size_alloc, a3]
  rw [← hB]
  have c2 := box_below B (.cells (polC (.slice none 0 0) a) 26)
  exact ⟨below_next (below_next a2 b2) c2, ((c2.block _ (by omega)).trans (b2.block _ (by omega))).trans a1, (c2.block _ (by omega)).trans b1, by rw [← b3]; exact heap_alloc_new _ _⟩

/-- The conds of rules lie in rows that may be written into. -/
def RawOk (es : List RE) (X : World) : Prop := ∀ e ∈ es, ∃ b cur, e.2.1 = some ⟨b, 0, none⟩ ∧ X.heap[b]? = some (.cells cur 47 (0, 0))
/-- A policy in memory of its own, from B on. -/
def OwnsPol (B : Nat) (ob : Option Addr) (cb : Nat) (p : POL) (W : World) : Prop :=
  ∃ es : List RE, es.map (·.1) = p.rules ∧ W.ownsRow (B + 3) 41 4 (.slice ob p.rules.length cb) es.length (flatR es) ∧ CondsOk (B + 2) (.slice ob p.rules.length cb) es W ∧ RawOk es W
set_option maxHeartbeats 8000000 in
set_option maxRecDepth 100000 in
theorem own2_any (p : POL) (hf : p.rules.length ≤ 14) (hc6 : ∀ r ∈ p.rules, r.conds.length ≤ 6) (oa : Option Addr) (cap : Nat) (w : World) (h : IsPol oa cap p w) :
    Calls Tryz.prog 7 #[polV p oa cap] w fun e w' => (∃ ob cb, e = .returned (polV p ob cb) ∧ IsPol ob cb p w' ∧ OwnsPol w.heap.size ob cb p w') ∧ Below w.heap.size w w' := by
  obtain ⟨n, hn⟩ : ∃ n, n = p.rules.length := ⟨_, rfl⟩
  have HC := hide (pol_parts h n hn)
  have HPK := hide h.ok
  clear h
  have h14 : n ≤ 14 := by omega
  have H6 := hide hc6
  clear hc6 hf
  obtain ⟨rs, ⟨ak, ae⟩⟩ := p
  have HPV := hide (show ∀ ob cb, polV ⟨rs, ⟨ak, ae⟩⟩ ob cb = .agg #[.slice ob n cb, .int .i64 ak, .int .i64 ae] from fun ob cb => by unfold polV; simp only at hn ⊢; rw [← hn])
  rw [HPV.out]
  simp only at HC hn H6
  have HN := hide hn
  have HL := hide (show ∀ i, i < n → ∃ c, rs[i]? = some c ∧ rs.take (i + 1) = rs.take i ++ [c] from fun i h => take_next (by omega))
  clear hn
  have HO0 := hide (OX.start w oa n cap ⟨ak, ae⟩)
  unfold polC at HO0
  simp only at HO0
  obtain ⟨V, hV⟩ : ∃ V, V = ((w.alloc (.cells #[.slice oa n cap, .int .i64 ak, .int .i64 ae] 26)).alloc (.cells #[.slice none 0 0, .int .i64 0, .int .i64 0] 26)).alloc (.cells #[.slice none 0 0, .int .i64 ak, .int .i64 ae] 26) := ⟨_, rfl⟩
  rw [← hV] at HO0
  go_enter Tryz.func7, Tryz.ntmps7
  go_wp2
  rw [← hV]
  clear hV
  go_loopw [4] (fun I w' => ∃ (i : Nat) (es : List RE) (sv : Value), i ≤ n ∧ I = .int .i64 i ∧ Hid (OX w oa n cap ⟨ak, ae⟩ sv w') ∧ Hid (w'.ownsRow (w.heap.size + 3) 41 4 sv es.length (flatR es)) ∧ Hid (CondsOk (w.heap.size + 2) sv es w') ∧ Hid (es.map (·.1) = rs.take i) ∧ Hid (es.length = i) ∧ Hid (RawOk es w')) (fun I _ => n - (intOf I).toNat)
  case atStart => exact ⟨0, [], .slice none 0 0, by omega, rfl, HO0, hide (World.ownsRow_nil _ _ _ _), hide (fun e he => by cases he), hide (by simp), hide rfl, hide (fun e he => by cases he)⟩
  case round =>
    obtain ⟨i, es, sv, hi, rfl, HX, HO, HK, HI, HEL, HRW⟩ := hrel
    clear HO0
    have b0 : wr.cell? ⟨w.heap.size, 0, none⟩ = some (.slice oa n cap) := cell_of_row _ _ 0 _ _ _ HX.out.box
    have lX := HX.out.lt
    by_cases hlt : i < n
    · obtain ⟨c, hcs, hcat⟩ := HL.out i hlt
      obtain ⟨b, off, rfl, hbw, HA⟩ := HC.out (by omega)
      obtain ⟨ca, cc, hR0⟩ := HA.out i c hcs
      have hR := hR0.on hbw HX.out.below
      obtain ⟨m, hm⟩ : ∃ m, m = c.conds.length := ⟨_, rfl⟩
      have hm6 : m ≤ 6 := by rw [hm]; exact H6.out c (List.mem_of_getElem? hcs)
      have HROK := hide hR.ok
      have HTK := hide hcat
      have HM := hide hm
      obtain ⟨W1, hW1, hW1b, hW1h, hW1s⟩ : ∃ V, V = wr.alloc (.cells #[.int .i64 c.nr, .slice ca m cc, .int .i64 c.act.kind, .int .i64 c.act.errno] 41) ∧ Below wr.heap.size wr V ∧ V.heap[wr.heap.size]? = some (.cells (ruleC c.nr (.slice ca m cc) c.act) 41 (0, 0)) ∧ V.heap.size = wr.heap.size + 1 := ⟨_, rfl, box_below _ _, heap_alloc_new _ _, by rw [World.size_alloc]⟩
      have HIC : Hid (IsConds ca c.conds W1) := hide (hR.conds.on hW1b)
      have HW1 : Hid (Below wr.heap.size wr W1) := hide hW1b
      have HR1 : Hid (W1.heap[wr.heap.size]? = some (.cells (ruleC c.nr (.slice ca m cc) c.act) 41 (0, 0))) := hide hW1h
      have r1 : W1.drew.cell? ⟨wr.heap.size, 1, none⟩ = some (.slice ca m cc) := cell_of_row _ _ 1 _ _ _ HR1.out
      have f1 : W1.drew.frozen? ⟨wr.heap.size, 1, none⟩ = false := frozen_of_row _ _ 1 _ _ HR1.out
      have r1b : (W1.alloc (.cells #[.int .i64 0, .int .i64 77, .int .u64 0, .int .u64 0, .string ⟨#[]⟩, .int .u32 0, .int .i64 0, .int .i64 0, .int .i64 0] 47)).drew.cell? ⟨wr.heap.size, 1, none⟩ = some (.slice ca m cc) := keep_cell (box_below W1 _).drew (cell_of_row _ _ 1 _ _ _ HR1.out)
      have l1 : wr.heap.size < W1.heap.size := by omega
      have L1 := hide hW1s
      obtain ⟨p0, p1, p2, p3, _, _, _, _⟩ := hR
      rw [← hm] at p1
      clear hcs hcat hR0 hm hW1b hW1h hW1s
      obtain ⟨nr, cs, ⟨rk, re⟩⟩ := c
      simp only at p0 p1 p2 p3 hW1 HIC HR1 HROK HM HTK
      obtain ⟨inf, hi0, hz0, hz1, hz2⟩ := info_cond
      go_wp2
      rw [← hW1]
      clear hW1 p0 p1 p2 p3 b0
      have i1 : (0 : Int) ≤ m := by omega
      go_region_law
        (first
          | (refine step_append_conds (by rfl) _ _ (by rfl) (wr.heap.size + 1) (by rfl) ca m cc cs (by rfl) HM.out (by first | exact HIC.out.on (Below.refl _ W1).drew | exact (HIC.out.on (box_below W1 _)).on (Below.refl _ _).drew) (by omega) (by first | (have := L1.out; show _ ≤ W1.heap.size; omega) | (have := L1.out; show _ ≤ (W1.alloc _).heap.size; rw [World.size_alloc]; omega)) ?_; intro v1 w1 ho1 hb1; have HB1 : Hid (Below W1.heap.size W1 w1) := hide (by first | exact drewB hb1 | exact drewA hb1); have HR2 := hide ((HB1.out.block _ l1).trans HR1.out); have r2 : w1.cell? ⟨wr.heap.size, 1, none⟩ = some (.slice ca m cc) := cell_of_row _ _ 1 _ _ _ HR2.out; have l2 : wr.heap.size < w1.heap.size := block_lt_of_cell r2; have HO1 := hide ho1; (first | have HE := hide ((hb1.block W1.heap.size (by show _ < (W1.alloc _).heap.size; rw [World.size_alloc]; exact Nat.lt_succ_self _)).trans (heap_alloc_new W1 _)) | skip); clear ho1 hb1)
          | (refine step_append_lies _ (by rfl) _ _ _ (by rfl) (wr.heap.size + 1) 47 inf _ 9 80 Tryz.underlying39 hi0 hz0 hz1 hz2 rfl (by omega) v1 m (flatC cs) (by rfl) (HO1.out.alloc _)
                ⟨w1.heap.size, 0, none⟩ 1 1 [.int .i64 0, .int .i64 77, .int .u64 0, .int .u64 0, .string ⟨#[]⟩, .int .u32 0, .int .i64 0, .int .i64 0, .int .i64 0] (by rfl) (by rfl) (World.news_of_block (cs := #[.int .i64 0, .int .i64 77, .int .u64 0, .int .u64 0, .string ⟨#[]⟩, .int .u32 0, .int .i64 0, .int .i64 0, .int .i64 0]) (t := 47) (fr := (0, 0)) (heap_alloc_new w1 _)) (by simp [Value.oneCell'])
                (by omega) (by simp only [maxLen]; omega) (by omega) (by rw [World.size_alloc]; omega) (w1.heap.size + 1) (by simp) ?_; intro gg cap1 w2 hown1 hgrow hat hltt; have HZ3 := hide (oz_alloc HW1.out HB1.out HR2.out HO1.out hgrow hown1 HROK.out.conds HM.out); have HZ := hide HZ3.out.1; have hcp := HZ3.out.2.2; have r3 : w2.cell? ⟨wr.heap.size, 1, none⟩ = some (.slice ca m cc) := cell_of_row _ _ 1 _ _ _ HZ3.out.2.1; have f3 : w2.frozen? ⟨wr.heap.size, 1, none⟩ = false := frozen_of_row _ _ 1 _ _ HZ3.out.2.1; have i2 : (m : Int) ≤ cap1 := (by omega); clear hown1 hgrow hat hltt)
          | (refine step_append_lies _ (by rfl) _ _ _ (by rfl) (wr.heap.size + 1) 47 inf _ 9 80 Tryz.underlying39 hi0 hz0 hz1 hz2 rfl (by omega) v1 m (flatC cs) (by rfl) HO1.out
                ⟨W1.heap.size, 0, none⟩ 1 1 [.int .i64 0, .int .i64 77, .int .u64 0, .int .u64 0, .string ⟨#[]⟩, .int .u32 0, .int .i64 0, .int .i64 0, .int .i64 0] (by rfl) (by rfl) (World.news_of_block (cs := #[.int .i64 0, .int .i64 77, .int .u64 0, .int .u64 0, .string ⟨#[]⟩, .int .u32 0, .int .i64 0, .int .i64 0, .int .i64 0]) (t := 47) (fr := (0, 0)) HE.out) (by simp [Value.oneCell'])
                (by omega) (by simp only [maxLen]; omega) (by omega) (by omega) w1.heap.size (by rfl) ?_; intro gg cap1 w2 hown1 hgrow hat hltt; have HZ3 := hide (oz_plain HW1.out HB1.out HR2.out HO1.out hgrow hown1 HROK.out.conds HM.out); have HZ := hide HZ3.out.1; have hcp := HZ3.out.2.2; have r3 : w2.cell? ⟨wr.heap.size, 1, none⟩ = some (.slice ca m cc) := cell_of_row _ _ 1 _ _ _ HZ3.out.2.1; have f3 : w2.frozen? ⟨wr.heap.size, 1, none⟩ = false := frozen_of_row _ _ 1 _ _ HZ3.out.2.1; have i2 : (m : Int) ≤ cap1 := (by omega); clear hown1 hgrow hat hltt))
      all_goals
        refine forget_any (OZ wr wr.heap.size nr cs ⟨rk, re⟩ gg cap1) HZ.out ?_
        intro Z hZ
        have HZZ := hide hZ
        clear hZ HZ HZ3 r3 f3 HR2 r2 l2 HO1 HB1
        have HXZ := hide (HX.out.on HZZ.out.below)
        have HOZ := hide (own_on HO.out HZZ.out.below)
        have m0 : Z.cell? ⟨wr.heap.size, 0, none⟩ = some (.int .i64 nr) := cell_of_row _ _ 0 _ _ _ HZZ.out.row
        have m1 : Z.cell? ⟨wr.heap.size, 1, none⟩ = some (.slice (some ⟨gg, 0, none⟩) m cap1) := by rw [HM.out]; exact cell_of_row _ _ 1 _ _ _ HZZ.out.row
        have m2 : Z.cell? ⟨wr.heap.size, 2, none⟩ = some (.int .i64 rk) := cell_of_row _ _ 2 _ _ _ HZZ.out.row
        have m3 : Z.cell? ⟨wr.heap.size, 3, none⟩ = some (.int .i64 re) := cell_of_row _ _ 3 _ _ _ HZZ.out.row
        have cD : Z.cell? ⟨w.heap.size + 2, 0, none⟩ = some sv := cell_of_row _ _ 0 _ _ _ HXZ.out.row
        have l5 : w.heap.size + 2 < Z.heap.size := HXZ.out.lt
        obtain ⟨infR, hj0, hj1, hj2, hj3⟩ := info_rule
        have hel : es.length ≤ 14 := by have := HEL.out; omega
        go_wp2_with (refine wpList_append_lies _ (by rfl) _ _ _ (by rfl) (w.heap.size + 3) 41 infR _ 4 48 Tryz.underlying22 hj0 hj1 hj2 hj3 rfl (by omega) sv es.length (flatR es) (by rfl) (HOZ.out.alloc _) ⟨Z.heap.size, 0, none⟩ 1 1 [.int .i64 nr, .slice (some ⟨gg, 0, none⟩) m cap1, .int .i64 rk, .int .i64 re] (by rfl) (by rfl) (World.news_of_block (cs := #[.int .i64 nr, .slice (some ⟨gg, 0, none⟩) m cap1, .int .i64 rk, .int .i64 re]) (t := 41) (fr := (0, 0)) (heap_alloc_new Z _)) (by simp [Value.oneCell']) (by omega) (by simp only [maxLen]; omega) (by omega) (by rw [World.size_alloc]; omega) (Z.heap.size + 1) (by simp) ?_; intro g7 cap7 w7 hown7 hgrow7 hat7 hlt7; have HG7 := hide (And.intro hown7 (And.intro hgrow7 (And.intro hat7 hlt7))); have HW7 := hide (HXZ.out.heap (Y := w7) ⟨hgrow7.os, hgrow7.tape, hgrow7.output⟩ (Nat.le_trans (box_below Z _).size hgrow7.size) (fun k hk => (hgrow7.block k (by rw [World.size_alloc]; omega) (fun e1 => by have := (HOZ.out.lt k e1.symm).1; omega)).trans ((box_below Z _).block k (by omega)))); have cE : w7.cell? ⟨w.heap.size + 2, 0, none⟩ = some sv := cell_of_row _ _ 0 _ _ _ HW7.out.row; have fE : w7.frozen? ⟨w.heap.size + 2, 0, none⟩ = false := frozen_of_row _ _ 0 _ _ HW7.out.row; clear hown7 hgrow7 hat7 hlt7)
        have HS2 := hide (HW7.out.set (.slice (some ⟨g7, 0, none⟩) (es.length + 1) cap7))
        have HO2 := hide (own_but (r := w.heap.size + 2) (V := w7.setCell ⟨w.heap.size + 2, 0, none⟩ (.slice (some ⟨g7, 0, none⟩) (es.length + 1) cap7)) HG7.out.1 (But.set (w.heap.size + 2) 0 w7 _) (by omega))
        have HK2 := hide (condsOk_more (e := (⟨nr, cs, ⟨rk, re⟩⟩, some ⟨gg, 0, none⟩, cap1)) (gg := g7) (n := es.length + 1) (cap := cap7) HK.out HZZ.out.below ⟨HROK.out, HZZ.out.conds, HZZ.out.le, HZZ.out.cap, fun b off e0 => by
          simp only [Option.some.injEq, Addr.mk.injEq] at e0
          have := HZZ.out.lt
          omega⟩ HX.out.lt (fun k hk => (HO.out.lt k hk).2) HG7.out.2.1 HG7.out.2.2.1 (w7.setCell ⟨w.heap.size + 2, 0, none⟩ (.slice (some ⟨g7, 0, none⟩) (es.length + 1) cap7)) (fun k hk => Below.heap_setCell _ _ _ _ hk) (But.set (w.heap.size + 2) 0 w7 _).size)
        have HRW2 : Hid (RawOk (es ++ [((⟨nr, cs, ⟨rk, re⟩⟩ : RL), (some ⟨gg, 0, none⟩ : Option Addr), cap1)]) (w7.setCell ⟨w.heap.size + 2, 0, none⟩ (.slice (some ⟨g7, 0, none⟩) (es.length + 1) cap7))) := hide (fun e he => by
          have hVZ : ∀ b, w.heap.size + 2 < b → sv.ownBlock ≠ some b → b < Z.heap.size → (w7.setCell ⟨w.heap.size + 2, 0, none⟩ (.slice (some ⟨g7, 0, none⟩) (es.length + 1) cap7)).heap[b]? = Z.heap[b]? := fun b h1 h2 h3 => (Below.heap_setCell w7 ⟨w.heap.size + 2, 0, none⟩ _ b (by show b ≠ w.heap.size + 2; omega)).trans ((HG7.out.2.1.block b (by rw [World.size_alloc]; omega) (fun e => h2 e.symm)).trans ((box_below Z _).block b h3))
          rcases List.mem_append.1 he with h1 | h1
          · obtain ⟨b, cur, h2, h3⟩ := HRW.out e h1
            obtain ⟨_, _, _, _, q5⟩ := HK.out e h1
            have h5 := q5 b 0 h2
            exact ⟨b, cur, h2, (hVZ b h5.1 h5.2.1 (Nat.lt_of_lt_of_le h5.2.2 HZZ.out.below.size)).trans ((HZZ.out.below.block b h5.2.2).trans h3)⟩
          · rw [List.mem_singleton.1 h1]
            obtain ⟨cur, h3⟩ := HZZ.out.own
            exact ⟨gg, cur, rfl, (hVZ gg (by have := HZZ.out.lt; have := HX.out.lt; omega) (fun e => by have := (HO.out.lt _ e).2; have := HZZ.out.lt; omega) HZZ.out.lt.2).trans h3⟩)
        have HI2 := hide (show (es ++ [((⟨nr, cs, ⟨rk, re⟩⟩ : RL), (some ⟨gg, 0, none⟩ : Option Addr), cap1)]).map (·.1) = rs.take (i + 1) by rw [HTK.out, List.map_append, HI.out]; rfl)
        have HEL2 := hide (show (es ++ [((⟨nr, cs, ⟨rk, re⟩⟩ : RL), (some ⟨gg, 0, none⟩ : Option Addr), cap1)]).length = i + 1 by rw [List.length_append, List.length_singleton, HEL.out])
        replace HO2 : Hid ((w7.setCell ⟨w.heap.size + 2, 0, none⟩ (.slice (some ⟨g7, 0, none⟩) (es.length + 1) cap7)).ownsRow (w.heap.size + 3) 41 4 (.slice (some ⟨g7, 0, none⟩) (es.length + 1) cap7) (es ++ [((⟨nr, cs, ⟨rk, re⟩⟩ : RL), (some ⟨gg, 0, none⟩ : Option Addr), cap1)]).length (flatR (es ++ [((⟨nr, cs, ⟨rk, re⟩⟩ : RL), (some ⟨gg, 0, none⟩ : Option Addr), cap1)]))) := hide (by
          rw [List.length_append, List.length_singleton, flatR_snoc]
          have := HO2.out
          rw [HM.out] at this
          exact this)
        clear cD cE fE l5 HG7 HW7 HXZ HOZ m0 m1 m2 m3 HZZ
        go_wp2
        go_round
        case rel => exact ⟨i + 1, _, _, by omega, by go_num, HS2, HO2, HK2, HI2, HEL2, HRW2⟩
        case measure => simp [intOf]; omega
    · obtain rfl : i = n := by omega
      have HEQ := hide (show es.map (·.1) = rs by rw [HI.out, List.take_of_length_le (by rw [HN.out]; exact Nat.le_refl _)])
      have c0 : wr.cell? ⟨w.heap.size + 2, 0, none⟩ = some sv := cell_of_row _ _ 0 _ _ _ HX.out.row
      have c1 : wr.cell? ⟨w.heap.size + 2, 1, none⟩ = some (.int .i64 ak) := cell_of_row _ _ 1 _ _ _ HX.out.row
      have c2 : wr.cell? ⟨w.heap.size + 2, 2, none⟩ = some (.int .i64 ae) := cell_of_row _ _ 2 _ _ _ HX.out.row
      obtain ⟨oc, cc, hsv, hcl, hcm, _⟩ := rules_owned HO.out HK.out
      subst hsv
      have hres := HX.out.res
      obtain ⟨rc, hrc⟩ : ∃ rc : Array Value, rc = polC (.slice oc es.length cc) ⟨ak, ae⟩ := ⟨_, rfl⟩
      have h1c : rc.all (·.oneCell') = true := by rw [hrc]; simp [polC, Value.oneCell']
      go_wp2_with (refine wpList_store_row rfl 26 _ _ rfl (w.heap.size + 1) rc rfl (by rw [hrc]; rfl) 26 _ hres (by rw [hrc]; exact size_pol) (by rw [hrc]; rfl) h1c ?_)
      have hb1 : ∀ k, k ≠ w.heap.size + 1 → (wr.setRow (w.heap.size + 1) rc).heap[k]? = wr.heap[k]? := fun k hk => row_heap wr _ k _ hk
      have hBt : But (w.heap.size + 1) wr (wr.setRow (w.heap.size + 1) rc) := ⟨rfl, rfl, rfl, by rw [row_size]; exact Nat.le_refl _, fun k _ hn => hb1 k hn⟩
      refine bodyPost_ret (v := .agg rc) (results_cell_row rfl _ _ (w.heap.size + 1) 26 rc (0, 0) _ rfl (setRow_heap _ _ _ _ _ _ hres) Tryz.underlying26 rfl (by rw [hrc]; exact size_pol)) rfl ⟨?_, hBt.below HX.out.below (by omega) HX.out.below.size⟩
      have hO2 := HO.out.kept hBt.grown (by
        by_cases he : (Value.slice oc es.length cc).ownBlock = some (w.heap.size + 1)
        · have := (HO.out.lt _ he).1
          omega
        · exact .inr he)
      have hK2 : CondsOk (w.heap.size + 2) (.slice oc es.length cc) es (wr.setRow (w.heap.size + 1) rc) := fun e he => by
        obtain ⟨q1, q2, q3, q4, q5⟩ := HK.out e he
        refine ⟨q1, q2.heap (fun b off e0 _ => hb1 b (by have := q5 b off e0; omega)) (by rw [row_size]; exact Nat.le_refl _), q3, q4, fun b off e0 => ?_⟩
        rw [row_size]
        exact q5 b off e0
      obtain ⟨oc', cc', hsv', _, _, hIR⟩ := rules_owned hO2 hK2
      simp only [Value.slice.injEq] at hsv'
      obtain ⟨rfl, _, rfl⟩ := hsv'
      rw [HEQ.out] at hIR
      have hRW3 : RawOk es (wr.setRow (w.heap.size + 1) rc) := fun e he => by
        obtain ⟨b, cur, h2, h3⟩ := HRW.out e he
        obtain ⟨_, _, _, _, q5⟩ := HK.out e he
        have h5 := q5 b 0 h2
        exact ⟨b, cur, h2, (hb1 b (by omega)).trans h3⟩
      have hlen : rs.length = es.length := by rw [← HN.out, ← HEL.out]
      refine ⟨oc, cc, by rw [hrc, HPV.out]; unfold polC; simp only; rw [HEL.out], ⟨hIR, by simp only; rw [← HN.out, ← HEL.out]; exact hcl, hcm, HPK.out⟩, es, HEQ.out, ?_, ?_, hRW3⟩
      · simp only
        rw [hlen]
        exact hO2
      · simp only
        rw [hlen]
        exact hK2
end Go.Proofs.YtklibmijiecbfaaGreat

/- copyPolicy. -/
namespace Go.Proofs.YtklibmijiecbfaaGreat
open Go.RowKit Mm

theorem VA_of (c : Array Value) : ∃ f, c = VA c.size f := ⟨fun i => c.getD i undef, by
  rw [VA_eq]
  unfold VA0
  refine Array.ext (by simp) fun i h1 h2 => ?_
  simp⟩
theorem setCells_VAn (N g : Nat) (ty : TypeId) : ∀ (l : List Value) (o : Nat) (f : Nat → Value) (W : World), W.heap[g]? = some (.cells (VA N f) ty (0, 0)) → W.setCells g o l = W.setRow g (VA N (ovr f o l))
  | [], o, f, W, h => by
    rw [show ovr f o [] = f by funext i; unfold ovr; rw [if_neg (by simp only [List.length_nil]; omega)]]
    exact (setRow_self W g _ _ _ h).symm
  | x :: r, o, f, W, h => by
    rw [World.setCells, setCell_eq_setRow _ _ _ _ _ _ _ h, VA_set, setCells_VAn N g ty r (o + 1) (updV f o x) _ (setRow_heap _ _ _ _ _ _ h), setRow_again _ _ _ _ _ _ h]
    congr 2
    funext i
    unfold ovr updV
    by_cases h1 : i = o
    · subst h1
      rw [if_neg (by omega), if_pos rfl, if_pos (by simp), Nat.sub_self]
      rfl
    · by_cases h2 : o + 1 ≤ i ∧ i < o + 1 + r.length
      · rw [if_pos h2, if_pos (by rw [List.length_cons]; omega), show i - o = (i - (o + 1)) + 1 by omega, List.getD_cons_succ]
      · rw [if_neg h2, if_neg h1, if_neg (by rw [List.length_cons]; omega)]
theorem wpList_make_rules {ops : Array Oper} {rest : List Oper} {o : Oper} {a : Act} {w : World} {Q : Exit → Act → World → Prop} (hgd : o.guard = none) (x y : Operand) (ho : o.op = .makeSlice 22 x y) (n : Nat)
    (hx : a.eval x = .int .i64 (n : Int)) (hy : a.eval y = .int .i64 (n : Int)) (hn : n ≤ 1000)
    (h : ∀ f : Nat → Value, wpList Tryz.prog ops Q rest (a.put o.dst (.slice (some ⟨w.heap.size, 0, none⟩) n n)) (w.alloc (.cells (VA (n * 4) f) 41))) : wpList Tryz.prog ops Q (o :: rest) a w := by
  obtain ⟨inf, hi0, hz0, hz1, hz2⟩ := info_rule
  have hr := run_make (P := Tryz.prog) w 22 41 inf _ Tryz.underlying22 hi0 hz0 .i64 .i64 (n : Int) (n : Int) (by omega) (Int.le_refl _) (by rw [hz2]; omega) (by omega)
  rw [Int.toNat_natCast, hz1] at hr
  refine wpList_plain hgd fun K hK => ?_
  unfold Oper.wp execOp
  simp only [ho, hx, hy, Sem.run_bind, hr, Result.andThen_ok]
  refine hK _ _ ?_
  obtain ⟨f, hf⟩ := VA_of _
  rw [size_madeCells] at hf
  rw [hf]
  exact h f
theorem wpList_make_conds {ops : Array Oper} {rest : List Oper} {o : Oper} {a : Act} {w : World} {Q : Exit → Act → World → Prop} (hgd : o.guard = none) (x y : Operand) (ho : o.op = .makeSlice 39 x y) (n : Nat)
    (hx : a.eval x = .int .i64 (n : Int)) (hy : a.eval y = .int .i64 (n : Int)) (hn : n ≤ 1000)
    (h : ∀ c : Array Value, c.size = n * 9 → wpList Tryz.prog ops Q rest (a.put o.dst (.slice (some ⟨w.heap.size, 0, none⟩) n n)) (w.alloc (.cells c 47))) : wpList Tryz.prog ops Q (o :: rest) a w := by
  obtain ⟨inf, hi0, hz0, hz1, hz2⟩ := info_cond
  have hr := run_make (P := Tryz.prog) w 39 47 inf _ Tryz.underlying39 hi0 hz0 .i64 .i64 (n : Int) (n : Int) (by omega) (Int.le_refl _) (by rw [hz2]; omega) (by omega)
  rw [Int.toNat_natCast, hz1] at hr
  refine wpList_plain hgd fun K hK => ?_
  unfold Oper.wp execOp
  simp only [ho, hx, hy, Sem.run_bind, hr, Result.andThen_ok]
  exact hK _ _ (h _ (size_madeCells _ _))
/-- The builtin copy, as a step of a region that draws. -/
theorem wp_copy_wide {P : Program} {w : World} {o : Oper} {a : Act} {K : Act → World → Prop} {Q : Exit → Act → World → Prop} (d s : Operand) (dT sT : TypeId)
    (ho : o.op = .call { callee := .builtin .copy, args := #[d, s], argTypes := #[dT, sT] }) (elem : TypeId) (sz : Nat) (hu : P.underlying dT = some (.slice elem)) (hsz : (P.info? elem).map (·.size) = some sz)
    (g k dCap : Nat) (ad : Addr) (sCap : Nat) (hd : a.eval d = .slice (some ⟨g, 0, none⟩) k dCap) (hs : a.eval s = .slice (some ad) k sCap)
    (cur : Array Value) (t : TypeId) (hg : w.heap[g]? = some (.cells cur t (0, 0))) (cs : List Value) (hn : cs.length = k * sz) (hcur : cur.size = k * sz)
    (hsrc : ∀ j v, cs[j]? = some v → w.cell? (ad.add j) = some v) (h1 : ∀ v ∈ cs, v.oneCell' = true)
    (h : K (a.put o.dst (goInt k)) (w.setRow g cs.toArray)) : o.wp P a w K Q := by
  have hrun := run_copy_wide P w dT sT o.type elem sz g 0 k dCap ad k sCap cur t cs k hu hsz hg (Nat.min_self k).symm hn hsrc (by omega) h1
  rw [List.take_zero, List.nil_append, Nat.zero_add, List.drop_eq_nil_of_le (by simp; omega), List.append_nil] at hrun
  unfold Oper.wp
  simp [execOp, ho, resolve, invoke, builtin, hd, hs, hrun, Result.andThen]
  exact h
/-- The world in the midst of copyPolicy. -/
structure CKX (w : World) (oa : Option Addr) (n cap : Nat) (a : ACT) (rs : List RL) (i : Nat) (X : World) : Prop where
  below : Below w.heap.size w X
  box : X.heap[w.heap.size]? = some (.cells (polC (.slice oa n cap) a) 26 (0, 0))
  res : X.heap[w.heap.size + 1]? = some (.cells (polC (.slice none 0 0) ⟨0, 0⟩) 26 (0, 0))
  row : ∃ f, X.heap[w.heap.size + 2]? = some (.cells (VA (n * 4) f) 41 (0, 0)) ∧ ∀ j r, j < i → rs[j]? = some r → ∃ cb, w.heap.size + 2 < cb ∧ f (j * 4) = .int .i64 r.nr ∧ f (j * 4 + 1) = .slice (some ⟨cb, 0, none⟩) r.conds.length r.conds.length ∧ f (j * 4 + 2) = .int .i64 r.act.kind ∧ f (j * 4 + 3) = .int .i64 r.act.errno ∧
    X.heap[cb]? = some (.cells (flatC r.conds).toArray 47 (0, 0))
theorem CKX.lt {w : World} {oa : Option Addr} {n cap : Nat} {a : ACT} {rs : List RL} {i : Nat} {X : World} (h : CKX w oa n cap a rs i X) : w.heap.size + 2 < X.heap.size := by
  obtain ⟨f, h1, _⟩ := h.row
  exact (Array.getElem?_eq_some_iff.1 h1).1
theorem CKX.start (w : World) (oa : Option Addr) (n cap : Nat) (a : ACT) (rs : List RL) (f : Nat → Value) : CKX w oa n cap a rs 0 (((w.alloc (.cells (polC (.slice oa n cap) a) 26)).alloc (.cells (polC (.slice none 0 0) ⟨0, 0⟩) 26)).alloc (.cells (VA (n * 4) f) 41)) := by
  obtain ⟨A, hA⟩ : ∃ A, A = w.alloc (.cells (polC (.slice oa n cap) a) 26) := ⟨_, rfl⟩
  have a1 : A.heap[w.heap.size]? = some (.cells (polC (.slice oa n cap) a) 26 (0, 0)) := by rw [hA]; exact heap_alloc_new _ _
  have a2 : Below w.heap.size w A := by rw [hA]; exact box_below _ _
  have a3 : A.heap.size = w.heap.size + 1 := by rw [hA, World.size_alloc]
  rw [← hA]
  obtain ⟨B, hB⟩ : ∃ B, B = A.alloc (.cells (polC (.slice none 0 0) ⟨0, 0⟩) 26) := ⟨_, rfl⟩
  have b1 : B.heap[w.heap.size + 1]? = some (.cells (polC (.slice none 0 0) ⟨0, 0⟩) 26 (0, 0)) := by rw [hB, ← a3]; exact heap_alloc_new _ _
  have b2 : Below A.heap.size A B := by rw [hB]; exact box_below _ _
  have b3 : B.heap.size = w.heap.size + 2 := by rw [hB, World.size_alloc, a3]
  rw [← hB]
  have c2 := box_below B (.cells (VA (n * 4) f) 41)
  exact ⟨below_next (below_next a2 b2) c2, ((c2.block _ (by omega)).trans (b2.block _ (by omega))).trans a1, (c2.block _ (by omega)).trans b1, f, by rw [← b3]; exact heap_alloc_new _ _, fun j r hj => by omega⟩
/-- One rule more. -/
theorem CKX.next {w : World} {oa : Option Addr} {n cap : Nat} {a : ACT} {rs : List RL} {i : Nat} {X : World} (h : CKX w oa n cap a rs i X) (hi : i < n) {r : RL} (hr : rs[i]? = some r) (sv : Value) (z : Array Value) {X4 : World}
    (h4 : X4 = (((X.setCells (w.heap.size + 2) (i * 4) [.int .i64 r.nr, sv, .int .i64 r.act.kind, .int .i64 r.act.errno]).setCell ⟨w.heap.size + 2, i * 4 + 1, none⟩ (.slice (some ⟨X.heap.size, 0, none⟩) r.conds.length r.conds.length)).alloc (.cells z 47)).drew.setRow X.heap.size (flatC r.conds).toArray) : CKX w oa n cap a rs (i + 1) X4 := by
  have hlt := h.lt
  obtain ⟨f, hf, hrs⟩ := h.row
  obtain ⟨l4, hl4⟩ : ∃ l, l = [Value.int .i64 r.nr, sv, .int .i64 r.act.kind, .int .i64 r.act.errno] := ⟨_, rfl⟩
  rw [← hl4, setCells_VAn (n * 4) _ _ l4 (i * 4) f X hf] at h4
  obtain ⟨U1, hU1⟩ : ∃ U, U = X.setRow (w.heap.size + 2) (VA (n * 4) (ovr f (i * 4) l4)) := ⟨_, rfl⟩
  have u1 : U1.heap[w.heap.size + 2]? = some (.cells (VA (n * 4) (ovr f (i * 4) l4)) 41 (0, 0)) := by rw [hU1]; exact setRow_heap _ _ _ _ _ _ hf
  have u1o : ∀ k, k ≠ w.heap.size + 2 → U1.heap[k]? = X.heap[k]? := fun k hk => by rw [hU1]; exact row_heap X _ k _ hk
  have u1s : U1.heap.size = X.heap.size := by rw [hU1, row_size]
  have u1w : U1.os = X.os ∧ U1.tape = X.tape ∧ U1.output = X.output := by rw [hU1]; exact ⟨rfl, rfl, rfl⟩
  rw [← hU1, setCell_eq_setRow _ _ _ _ _ _ _ u1, VA_set] at h4
  obtain ⟨F, hF⟩ : ∃ F, F = updV (ovr f (i * 4) l4) (i * 4 + 1) (.slice (some ⟨X.heap.size, 0, none⟩) r.conds.length r.conds.length) := ⟨_, rfl⟩
  rw [← hF] at h4
  obtain ⟨U2, hU2⟩ : ∃ U, U = U1.setRow (w.heap.size + 2) (VA (n * 4) F) := ⟨_, rfl⟩
  have u2 : U2.heap[w.heap.size + 2]? = some (.cells (VA (n * 4) F) 41 (0, 0)) := by rw [hU2]; exact setRow_heap _ _ _ _ _ _ u1
  have u2o : ∀ k, k ≠ w.heap.size + 2 → U2.heap[k]? = U1.heap[k]? := fun k hk => by rw [hU2]; exact row_heap U1 _ k _ hk
  have u2s : U2.heap.size = X.heap.size := by rw [hU2, row_size, u1s]
  have u2w : U2.os = U1.os ∧ U2.tape = U1.tape ∧ U2.output = U1.output := by rw [hU2]; exact ⟨rfl, rfl, rfl⟩
  rw [← hU2] at h4
  obtain ⟨U3, hU3⟩ : ∃ U, U = U2.alloc (.cells z 47) := ⟨_, rfl⟩
  have u3b : Below U2.heap.size U2 U3 := by rw [hU3]; exact box_below _ _
  have u3s : U3.heap.size = X.heap.size + 1 := by rw [hU3, World.size_alloc, u2s]
  have u3n : U3.heap[X.heap.size]? = some (.cells z 47 (0, 0)) := by rw [hU3, ← u2s]; exact heap_alloc_new _ _
  have u3 := (u3b.block _ (by omega)).trans u2
  rw [← hU3] at h4
  have u4 : X4.heap[X.heap.size]? = some (.cells (flatC r.conds).toArray 47 (0, 0)) := by rw [h4]; exact setRow_heap U3.drew _ _ _ _ _ u3n
  have u4o : ∀ k, k ≠ X.heap.size → X4.heap[k]? = U3.heap[k]? := fun k hk => by rw [h4]; exact row_heap U3.drew _ k _ hk
  have u4s : X4.heap.size = X.heap.size + 1 := by rw [h4, row_size]; exact u3s
  have u4w : X4.os = U3.os ∧ X4.tape = U3.tape ∧ X4.output = U3.output := by rw [h4]; exact ⟨rfl, rfl, rfl⟩
  have hoth : ∀ k, k < X.heap.size → k ≠ w.heap.size + 2 → X4.heap[k]? = X.heap[k]? := fun k hk hne => (u4o k (by omega)).trans ((u3b.block k (by omega)).trans ((u2o k hne).trans (u1o k hne)))
  have hbs := h.below.size
  refine ⟨h.below.trans ⟨u4w.1.trans (u3b.os.trans (u2w.1.trans u1w.1)), u4w.2.1.trans (u3b.tape.trans (u2w.2.1.trans u1w.2.1)), u4w.2.2.trans (u3b.output.trans (u2w.2.2.trans u1w.2.2)), by omega, fun k hk => hoth k (by omega) (by omega)⟩,
    (hoth _ (by omega) (by omega)).trans h.box, (hoth _ (by omega) (by omega)).trans h.res, F, (u4o _ (by omega)).trans u3, fun j r' hj hr' => ?_⟩
  by_cases hji : j = i
  · subst hji
    obtain rfl : r = r' := Option.some.inj (hr.symm.trans hr')
    have hov : ∀ q, q < 4 → q ≠ 1 → F (j * 4 + q) = l4.getD q undef := fun q hq hq1 => by
      rw [hF]
      unfold updV ovr
      rw [if_neg (by omega), if_pos (by rw [hl4]; simp only [List.length_cons, List.length_nil]; omega), show j * 4 + q - j * 4 = q by omega]
    refine ⟨X.heap.size, hlt, ?_, ?_, ?_, ?_, u4⟩
    · rw [show j * 4 = j * 4 + 0 from rfl, hov 0 (by omega) (by omega), hl4]; rfl
    · rw [hF]; unfold updV; rw [if_pos rfl]
    · rw [hov 2 (by omega) (by omega), hl4]; rfl
    · rw [hov 3 (by omega) (by omega), hl4]; rfl
  · obtain ⟨cb, h1, h2, h3, h5, h6, h7⟩ := hrs j r' (by omega) hr'
    have hFo : ∀ q, q < 4 → F (j * 4 + q) = f (j * 4 + q) := fun q hq => by
      rw [hF]
      unfold updV ovr
      rw [if_neg (by omega), if_neg (by rw [hl4]; simp only [List.length_cons, List.length_nil]; omega)]
    have hcl : cb < X.heap.size := (Array.getElem?_eq_some_iff.1 h7).1
    exact ⟨cb, h1, (hFo 0 (by omega)).trans h2, (hFo 1 (by omega)).trans h3, (hFo 2 (by omega)).trans h5, (hFo 3 (by omega)).trans h6, (hoth cb hcl (by omega)).trans h7⟩
theorem conds_row {W : World} {cb : Nat} {cs : List CD} (h : W.heap[cb]? = some (.cells (flatC cs).toArray 47 (0, 0))) (hok : ∀ c ∈ cs, CdOk c) : IsConds (some ⟨cb, 0, none⟩) cs W :=
  ⟨fun _ => ⟨cb, 0, rfl, (Array.getElem?_eq_some_iff.1 h).1, fun i c hc => by
    have hcell : ∀ j u, j < 9 → (condC c).toList[j]? = some u → W.cell? ⟨cb, 0 + i * 9 + j, none⟩ = some u := fun j u hj hu => by
      rw [cell_of_row _ _ _ _ _ _ h, Nat.zero_add, List.getElem?_toArray, flatC_get cs i c j hc hj]
      exact hu
    exact ⟨hcell 0 _ (by omega) rfl, hcell 1 _ (by omega) rfl, hcell 2 _ (by omega) rfl, hcell 3 _ (by omega) rfl, hcell 4 _ (by omega) rfl, hcell 5 _ (by omega) rfl, hcell 6 _ (by omega) rfl, hcell 7 _ (by omega) rfl, hcell 8 _ (by omega) rfl, hok c (List.mem_of_getElem? hc)⟩⟩⟩
theorem CKX.rules {w : World} {oa : Option Addr} {n cap : Nat} {a : ACT} {rs : List RL} {X : World} (h : CKX w oa n cap a rs n X) (hn : n = rs.length) (hok : ∀ r ∈ rs, RlOk r) (hm : ∀ r ∈ rs, r.conds.length ≤ 1000) {V : World} (hb : ∀ k, w.heap.size + 2 ≤ k → k < X.heap.size → V.heap[k]? = X.heap[k]?) (hs : X.heap.size ≤ V.heap.size) : IsRules (some ⟨w.heap.size + 2, 0, none⟩) rs V := by
  obtain ⟨f, hf, hrs⟩ := h.row
  have hlt := h.lt
  refine ⟨fun _ => ⟨w.heap.size + 2, 0, rfl, by omega, fun i r hr => ?_⟩⟩
  have hi : i < rs.length := (List.getElem?_eq_some_iff.1 hr).1
  obtain ⟨cb, h1, h2, h3, h5, h6, h7⟩ := hrs i r (by omega) hr
  have hmem := List.mem_of_getElem? hr
  have hcl : cb < X.heap.size := (Array.getElem?_eq_some_iff.1 h7).1
  have hV := (hb (w.heap.size + 2) (by omega) hlt).trans hf
  have hc : ∀ q, q < 4 → V.cell? ⟨w.heap.size + 2, 0 + i * 4 + q, none⟩ = some (f (i * 4 + q)) := fun q hq => by
    rw [cell_of_row _ _ _ _ _ _ hV, Nat.zero_add]
    exact VA_get _ _ _ (by omega)
  refine ⟨some ⟨cb, 0, none⟩, r.conds.length, (hc 0 (by omega)).trans (congrArg some h2), (hc 1 (by omega)).trans (congrArg some h3), (hc 2 (by omega)).trans (congrArg some h5), (hc 3 (by omega)).trans (congrArg some h6), conds_row ((hb cb (by omega) hcl).trans h7) (hok r hmem).conds, Nat.le_refl _, by have := hm r hmem; unfold maxLen; omega, hok r hmem⟩
/-- A policy that stands by the blocks from B on alone. -/
def PolIn (B : Nat) (ob : Option Addr) (cap : Nat) (p : POL) (W : World) : Prop := ∀ V : World, (∀ k, B ≤ k → k < W.heap.size → V.heap[k]? = W.heap[k]?) → W.heap.size ≤ V.heap.size → IsPol ob cap p V
theorem IsPol.heap {oa : Option Addr} {cap : Nat} {p : POL} {W V : World} (h : IsPol oa cap p W) (hb : ∀ k, k < W.heap.size → V.heap[k]? = W.heap[k]?) (hs : W.heap.size ≤ V.heap.size) : IsPol oa cap p V :=
  ⟨⟨fun h0 => by
    obtain ⟨b, off, h1, h2, h3⟩ := h.rules.lie h0
    refine ⟨b, off, h1, by omega, fun i r hr => ?_⟩
    obtain ⟨ca, cc, hR⟩ := h3 i r hr
    have hc := fun j => cell_heap (hb b h2) j
    exact ⟨ca, cc, (hc _).trans hR.k0, (hc _).trans hR.k1, (hc _).trans hR.k2, (hc _).trans hR.k3, hR.conds.heap (fun b off e hb' => hb b hb') hs, hR.le, hR.cap, hR.ok⟩⟩, h.le, h.cap, h.ok⟩
end Go.Proofs.YtklibmijiecbfaaGreat

/- copyPolicy, walked. -/
namespace Go.Proofs.YtklibmijiecbfaaGreat
open Go.RowKit Mm


theorem run_copy_none (P : Program) (w : World) (dT sT ty elem : TypeId) (ad : Addr) (k dCap sCap sz : Nat) (hu : P.underlying dT = some (.slice elem)) (hs : (P.info? elem).map (·.size) = some sz) :
    (Builtin.copy_ #[dT, sT] ty #[.slice (some ad) k dCap, .slice none 0 sCap]).run P w = .ok (goInt 0) w := by
  cases hq : P.info? elem with
  | none => simp [hq] at hs
  | some i => simp [Builtin.copy_, run_underlying hu, Builtin.lenOf, Builtin.firstCells, sizeOf, typeInfo, hq, storeCells]
theorem wp_copy_none1 {P : Program} {w : World} {o : Oper} {a : Act} {K : Act → World → Prop} {Q : Exit → Act → World → Prop} (d s : Operand) (dT sT : TypeId)
    (ho : o.op = .call { callee := .builtin .copy, args := #[d, s], argTypes := #[dT, sT] }) (elem : TypeId) (sz : Nat) (hu : P.underlying dT = some (.slice elem)) (hsz : (P.info? elem).map (·.size) = some sz)
    (ad : Addr) (k dCap sCap : Nat) (hd : a.eval d = .slice (some ad) k dCap) (hs : a.eval s = .slice none 0 sCap)
    (h : K (a.put o.dst (goInt 0)) w) : o.wp P a w K Q := by
  have hrun := run_copy_none P w dT sT o.type elem ad k dCap sCap sz hu hsz
  unfold Oper.wp
  simp [execOp, ho, resolve, invoke, builtin, hd, hs, hrun, Result.andThen]
  exact h
set_option maxHeartbeats 8000000 in
set_option maxRecDepth 100000 in
theorem copyPol_any (p : POL) (hf : p.rules.length ≤ 100) (hc6 : ∀ r ∈ p.rules, r.conds.length ≤ 100) (oa : Option Addr) (cap : Nat) (w : World) (h : IsPol oa cap p w) :
    Calls Tryz.prog 20 #[polV p oa cap] w fun e w' => (∃ ob, e = .returned (polV p ob p.rules.length) ∧ IsPol ob p.rules.length p w' ∧ PolIn w.heap.size ob p.rules.length p w') ∧ Below w.heap.size w w' := by
  obtain ⟨n, hn⟩ : ∃ n, n = p.rules.length := ⟨_, rfl⟩
  have HC := hide (pol_parts h n hn)
  have HPK := hide h.ok
  clear h
  have h14 : n ≤ 100 := by omega
  have H6 := hide hc6
  clear hc6 hf
  obtain ⟨rs, ⟨ak, ae⟩⟩ := p
  have HPV := hide (show ∀ ob cb, polV ⟨rs, ⟨ak, ae⟩⟩ ob cb = .agg #[.slice ob n cb, .int .i64 ak, .int .i64 ae] from fun ob cb => by unfold polV; simp only at hn ⊢; rw [← hn])
  rw [HPV.out]
  simp only at HC hn H6
  have HN := hide hn
  have HRS : Hid (∀ i, i < n → ∃ c, rs[i]? = some c) := hide (fun i hi => ⟨_, List.getElem?_eq_getElem (by omega)⟩)
  have HPO := hide (show ∀ ob, (∃ ob', Ending.returned (.agg #[.slice ob n n, .int .i64 ak, .int .i64 ae]) = Ending.returned (polV ⟨rs, ⟨ak, ae⟩⟩ ob' (⟨rs, ⟨ak, ae⟩⟩ : POL).rules.length) ∧ ob' = ob) from fun ob => ⟨ob, by rw [HPV.out]; simp only; rw [← HN.out], rfl⟩)
  clear hn
  have HK0 := fun f => CKX.start w oa n cap ⟨ak, ae⟩ rs f
  unfold polC at HK0
  simp only at HK0
  go_enter Tryz.func20, Tryz.ntmps20
  go_wp2_with (refine wpList_make_rules rfl _ _ rfl n rfl rfl (by omega) ?_; intro f0; have HK1 := hide (HK0 f0); clear HK0)
  obtain ⟨V, hV⟩ : ∃ V, V = ((w.alloc (.cells #[.slice oa n cap, .int .i64 ak, .int .i64 ae] 26)).alloc (.cells #[.slice none 0 0, .int .i64 0, .int .i64 0] 26)).alloc (.cells (VA (n * 4) f0) 41) := ⟨_, rfl⟩
  rw [← hV] at HK1
  rw [← hV]
  clear hV
  go_loopw [11] (fun I w' => ∃ i : Nat, i ≤ n ∧ I = .int .i64 i ∧ Hid (CKX w oa n cap ⟨ak, ae⟩ rs i w')) (fun I _ => n - (intOf I).toNat)
  case atStart => exact ⟨0, by omega, rfl, HK1⟩
  case round =>
    obtain ⟨i, hi, rfl, HX⟩ := hrel
    clear HK1
    have lX := HX.out.lt
    by_cases hlt : i < n
    · obtain ⟨c, hcs⟩ := HRS.out i hlt
      obtain ⟨b, off, rfl, hbw, HA⟩ := HC.out (by omega)
      obtain ⟨ca, cc, hR0⟩ := HA.out i c hcs
      have hR := hR0.on hbw HX.out.below
      obtain ⟨m, hm⟩ : ∃ m, m = c.conds.length := ⟨_, rfl⟩
      have hm6 : m ≤ 100 := by rw [hm]; exact H6.out c (List.mem_of_getElem? hcs)
      have HM := hide hm
      have HFL : Hid ((flatC c.conds).length = m * 9) := hide (by rw [flatC_len, hm])
      have HIC := hide hR0.conds
      have HNX := fun (z : Array Value) (X4 : World) => HX.out.next (X4 := X4) hlt hcs (.slice ca m cc) z
      have b0 : wr.cell? ⟨w.heap.size, 0, none⟩ = some (.slice (some ⟨b, off, none⟩) n cap) := cell_of_row _ _ 0 _ _ _ HX.out.box
      obtain ⟨p0, p1, p2, p3, _, _, _, _⟩ := hR
      rw [← hm] at p1
      simp only [← hm] at HNX
      obtain ⟨f, hf, _⟩ := HX.out.row
      have HROW := hide hf
      clear hcs hR0 hm hf
      obtain ⟨nr, cs, ⟨rk, re⟩⟩ := c
      simp only at p0 p1 p2 p3 HIC HFL HNX
      have i1 : (0 : Int) ≤ i := by omega
      have i2 : (i : Int) < n := by omega
      obtain ⟨U1, hU1⟩ : ∃ U, U = wr.setCells (w.heap.size + 2) (i * 4) [.int .i64 nr, .slice ca m cc, .int .i64 rk, .int .i64 re] := ⟨_, rfl⟩
      have HU1 : Hid (∀ k, k ≠ w.heap.size + 2 → U1.heap[k]? = wr.heap[k]?) := hide (fun k hk => by rw [hU1]; exact setCells_other _ _ hk _ _ _)
      have HU1s : U1.heap.size = wr.heap.size := by rw [hU1]; exact (setCells_size _ _ _ _).1
      have HU1r : Hid (U1.heap[w.heap.size + 2]? = some (.cells (VA (n * 4) (ovr f (i * 4) [.int .i64 nr, .slice ca m cc, .int .i64 rk, .int .i64 re])) 41 (0, 0))) := hide (by rw [hU1, setCells_VAn (n * 4) _ _ _ _ f wr HROW.out]; exact setRow_heap _ _ _ _ _ _ HROW.out)
      have b1 : U1.cell? ⟨w.heap.size, 0, none⟩ = some (.slice (some ⟨b, off, none⟩) n cap) := by rw [cell_heap (HU1.out _ (by omega))]; exact b0
      have q1 : U1.cell? ⟨b, off + i * 4 + 1, none⟩ = some (.slice ca m cc) := by rw [cell_heap (HU1.out _ (by omega))]; exact p1
      rw [← hU1] at HNX
      have lU : w.heap.size + 2 < U1.heap.size := by omega
      have HS1 := hide HU1s
      clear HU1s
      go_wp2_with (first
        | (refine wpList_store_mid (P := Tryz.prog) rfl 41 _ _ rfl (w.heap.size + 2) (i * 4) #[.int .i64 nr, .slice ca m cc, .int .i64 rk, .int .i64 re] (by go_simp) rfl (by intro j hj; exact ⟨by rw [cell_of_row _ _ _ _ _ _ HROW.out, VA_get _ _ _ (by have h4 : j < 4 := hj; omega)]; rfl, frozen_of_row _ _ _ _ _ HROW.out⟩) size_rule (by simp [Value.oneCell']) ?_; rw [← hU1]; clear hU1 b0 p0 p1 p2 p3)
        | (refine wpList_make_conds rfl _ _ rfl m rfl rfl (by omega) ?_; intro z hz; have u1 : (U1.alloc (.cells z 47)).cell? ⟨w.heap.size + 2, i * 4 + 1, none⟩ = some (.slice ca m cc) := (keep_cell (box_below U1 _) (by rw [cell_of_row _ _ _ _ _ _ HU1r.out, VA_get _ _ _ (by omega)]; unfold ovr; rw [if_pos (by simp only [List.length_cons, List.length_nil]; omega), show i * 4 + 1 - i * 4 = 1 by omega]; rfl)); have g1 : (U1.alloc (.cells z 47)).frozen? ⟨w.heap.size + 2, i * 4 + 1, none⟩ = false := frozen_of_row _ _ _ _ _ (((box_below U1 _).block _ lU).trans HU1r.out)))
      obtain ⟨U3, hU3⟩ : ∃ U, U = ((U1.setCell ⟨w.heap.size + 1 + 1, i * 4 + 1, none⟩ (.slice (some ⟨U1.heap.size, 0, none⟩) m m)).alloc (.cells z 47)) := ⟨_, rfl⟩
      have hb2 := Fr.set (g := w.heap.size + 2) (gm := w.heap.size + 2) (.slice none 0 0) U1 (i * 4 + 1) (.slice (some ⟨U1.heap.size, 0, none⟩) m m)
      have hsz : (U1.setCell ⟨w.heap.size + 2, i * 4 + 1, none⟩ (.slice (some ⟨U1.heap.size, 0, none⟩) m m)).heap.size = U1.heap.size := by simp [World.setCell]
      have HU3 : Hid (∀ k, k < U1.heap.size → k ≠ w.heap.size + 2 → U3.heap[k]? = U1.heap[k]?) := hide (fun k hk hne => by
        rw [hU3]
        exact ((box_below _ _).block k (by rw [hsz]; exact hk)).trans (Below.heap_setCell U1 ⟨w.heap.size + 2, i * 4 + 1, none⟩ _ k hne))
      have hzr : U3.drew.heap[U1.heap.size]? = some (.cells z 47 (0, 0)) := by
        rw [hU3]
        have := heap_alloc_new (U1.setCell ⟨w.heap.size + 2, i * 4 + 1, none⟩ (.slice (some ⟨U1.heap.size, 0, none⟩) m m)) (.cells z 47)
        rw [hsz] at this
        exact this
      have d0 : U3.drew.cell? ⟨w.heap.size + 1 + 1, i * 4 + 1, none⟩ = some (.slice (some ⟨U1.heap.size, 0, none⟩) m m) := by
        rw [hU3]
        refine keep_cell (box_below _ _).drew ?_
        rw [setCell_eq_setRow _ _ _ _ _ _ _ HU1r.out, VA_set, cell_of_row _ _ _ _ _ _ (setRow_heap _ _ _ _ _ _ HU1r.out), VA_get _ _ _ (by omega)]
        unfold updV
        rw [if_pos rfl]
      have d1 : U3.drew.cell? ⟨w.heap.size, 0, none⟩ = some (.slice (some ⟨b, off, none⟩) n cap) := (cell_heap (HU3.out _ (by omega) (by omega)) 0).trans b1
      have d2 : U3.drew.cell? ⟨b, off + i * 4 + 1, none⟩ = some (.slice ca m cc) := (cell_heap (HU3.out _ (by omega) (by omega)) _).trans q1
      have HN' := HNX z
      rw [← HS1.out] at HN'
      rw [← hU3]
      replace HN' : ∀ X4, X4 = U3.drew.setRow U1.heap.size (flatC cs).toArray → CKX w (some ⟨b, off, none⟩) n cap ⟨ak, ae⟩ rs (i + 1) X4 := fun X4 h => HN' X4 (by rw [h, hU3])
      clear hU3 b1 q1 u1 g1 hb2 hsz HNX
      cases ca with
      | none => as_aux_lemma =>
        have hm0 : m = 0 := by
          rcases Nat.eq_zero_or_pos cs.length with h | h
          · rw [HM.out]; exact h
          · obtain ⟨_, _, h1, _⟩ := HIC.out.lie h
            cases h1
        subst hm0
        have hcs0 : cs = [] := List.eq_nil_of_length_eq_zero HM.out.symm
        have HN := hide (HN' U3.drew (by rw [hcs0, show (flatC []).toArray = z from (Array.eq_empty_of_size_eq_zero (by omega)).symm]; exact (setRow_self _ _ _ _ _ hzr).symm))
        refine wp_region_any (by kernel_rfl) ?_
        change wpAny _ _ _ _ _ _ _ (World.drew _)
        refine Gl.wpAny_takeOf 0 (some 34) (.slice (some ⟨w.heap.size + 1 + 1, 0, none⟩) n n) rfl rfl (by kernel_rfl) (by kernel_rfl) (by kernel_rfl) (fun _ _ _ h => h) (Or.inl ⟨by rfl, ?_⟩) ?_
        · intro wx
          go_simp
        try simp only [Act.put, List.setIfInBounds_toArray, List.set_cons_zero, List.set_cons_succ]
        refine Gl.wpAny_takeOf 1 (some 35) (.int .i64 (i : Nat)) rfl rfl (by kernel_rfl) (by kernel_rfl) (by kernel_rfl) (fun _ _ _ h => h) (Or.inl ⟨by rfl, ?_⟩) ?_
        · intro wx
          go_simp
        try simp only [Act.put, List.setIfInBounds_toArray, List.set_cons_zero, List.set_cons_succ]
        refine Gl.wpAny_takeOf 2 (some 36) (Value.pointer (some ⟨w.heap.size + 1 + 1, i * 4, none⟩)) rfl rfl (by kernel_rfl) (by kernel_rfl) (by kernel_rfl) (fun _ _ _ h => h) (Or.inl ⟨by rfl, ?_⟩) ?_
        · intro wx
          go_simp
        try simp only [Act.put, List.setIfInBounds_toArray, List.set_cons_zero, List.set_cons_succ]
        refine Gl.wpAny_takeOf 3 (some 37) (Value.pointer (some ⟨w.heap.size + 1 + 1, i * 4 + 1, none⟩)) rfl rfl (by kernel_rfl) (by kernel_rfl) (by kernel_rfl) (fun _ _ _ h => h) (Or.inl ⟨by rfl, ?_⟩) ?_
        · intro wx
          go_simp
        try simp only [Act.put, List.setIfInBounds_toArray, List.set_cons_zero, List.set_cons_succ]
        refine Gl.wpAny_takeOf 5 (some 39) (Value.pointer (some ⟨w.heap.size, 0, none⟩)) rfl rfl (by kernel_rfl) (by kernel_rfl) (by kernel_rfl) (fun _ _ _ h => h) (Or.inl ⟨by rfl, ?_⟩) ?_
        · intro wx
          go_simp
        try simp only [Act.put, List.setIfInBounds_toArray, List.set_cons_zero, List.set_cons_succ]
        refine Gl.wpAny_takeOf 7 (some 41) (.int .i64 (i : Nat)) rfl rfl (by kernel_rfl) (by kernel_rfl) (by kernel_rfl) (fun _ _ _ h => h) (Or.inl ⟨by rfl, ?_⟩) ?_
        · intro wx
          go_simp
        try simp only [Act.put, List.setIfInBounds_toArray, List.set_cons_zero, List.set_cons_succ]
        refine wpAny_two (i := 4) (j := 6) (by kernel_rfl) rfl rfl rfl rfl (fun K hK => ?_) (fun K hK => ?_)
        · go_simp
          refine hK _ _ ?_
          clear hK K
          try simp only [Act.put, List.setIfInBounds_toArray, List.set_cons_zero, List.set_cons_succ]
          refine Gl.wpAny_only (i := 6) (by kernel_rfl) rfl rfl (fun K hK => ?_)
          go_simp
          refine hK _ _ ?_
          clear hK K
          try simp only [Act.put, List.setIfInBounds_toArray, List.set_cons_zero, List.set_cons_succ]
          refine Gl.wpAny_takeOf 8 (some 42) (Value.pointer (some ⟨b, off + i * 4, none⟩)) rfl rfl (by kernel_rfl) (by kernel_rfl) (by kernel_rfl) (fun _ _ _ h => h) (Or.inl ⟨by rfl, ?_⟩) ?_
          · intro wx
            go_simp
          try simp only [Act.put, List.setIfInBounds_toArray, List.set_cons_zero, List.set_cons_succ]
          refine Gl.wpAny_takeOf 9 (some 43) (Value.pointer (some ⟨b, off + i * 4 + 1, none⟩)) rfl rfl (by kernel_rfl) (by kernel_rfl) (by kernel_rfl) (fun _ _ _ h => h) (Or.inl ⟨by rfl, ?_⟩) ?_
          · intro wx
            go_simp
          try simp only [Act.put, List.setIfInBounds_toArray, List.set_cons_zero, List.set_cons_succ]
          refine Gl.wpAny_only (i := 10) (by kernel_rfl) rfl rfl (fun K hK => ?_)
          go_simp
          refine hK _ _ ?_
          clear hK K
          try simp only [Act.put, List.setIfInBounds_toArray, List.set_cons_zero, List.set_cons_succ]
          refine Gl.wpAny_only (i := 11) (by kernel_rfl) rfl rfl (fun K hK => ?_)
          refine wp_copy_none1 _ _ 39 39 rfl 47 9 Tryz.underlying39 size_cond ⟨U1.heap.size, 0, none⟩ 0 0 cc rfl rfl ?_
          refine hK _ _ ?_
          clear hK K
          try simp only [Act.put, List.setIfInBounds_toArray, List.set_cons_zero, List.set_cons_succ]
          refine wpAny_done (by kernel_rfl) ?_ _
          go_wp2
          go_round
          case rel => exact ⟨i + 1, by omega, by go_num, HN⟩
          case measure => simp [intOf]; omega
        · go_simp
          refine hK _ _ ?_
          clear hK K
          try simp only [Act.put, List.setIfInBounds_toArray, List.set_cons_zero, List.set_cons_succ]
          refine Gl.wpAny_takeOf 8 (some 42) (Value.pointer (some ⟨b, off + i * 4, none⟩)) rfl rfl (by kernel_rfl) (by kernel_rfl) (by kernel_rfl) (fun _ _ _ h => h) (Or.inl ⟨by rfl, ?_⟩) ?_
          · intro wx
            go_simp
          try simp only [Act.put, List.setIfInBounds_toArray, List.set_cons_zero, List.set_cons_succ]
          refine Gl.wpAny_takeOf 9 (some 43) (Value.pointer (some ⟨b, off + i * 4 + 1, none⟩)) rfl rfl (by kernel_rfl) (by kernel_rfl) (by kernel_rfl) (fun _ _ _ h => h) (Or.inl ⟨by rfl, ?_⟩) ?_
          · intro wx
            go_simp
          try simp only [Act.put, List.setIfInBounds_toArray, List.set_cons_zero, List.set_cons_succ]
          refine wpAny_two (i := 4) (j := 10) (by kernel_rfl) rfl rfl rfl rfl (fun K hK => ?_) (fun K hK => ?_)
          · go_simp
            refine hK _ _ ?_
            clear hK K
            try simp only [Act.put, List.setIfInBounds_toArray, List.set_cons_zero, List.set_cons_succ]
            refine Gl.wpAny_only (i := 10) (by kernel_rfl) rfl rfl (fun K hK => ?_)
            go_simp
            refine hK _ _ ?_
            clear hK K
            try simp only [Act.put, List.setIfInBounds_toArray, List.set_cons_zero, List.set_cons_succ]
            refine Gl.wpAny_only (i := 11) (by kernel_rfl) rfl rfl (fun K hK => ?_)
            refine wp_copy_none1 _ _ 39 39 rfl 47 9 Tryz.underlying39 size_cond ⟨U1.heap.size, 0, none⟩ 0 0 cc rfl rfl ?_
            refine hK _ _ ?_
            clear hK K
            try simp only [Act.put, List.setIfInBounds_toArray, List.set_cons_zero, List.set_cons_succ]
            refine wpAny_done (by kernel_rfl) ?_ _
            go_wp2
            go_round
            case rel => exact ⟨i + 1, by omega, by go_num, HN⟩
            case measure => simp [intOf]; omega
          · go_simp
            refine hK _ _ ?_
            clear hK K
            try simp only [Act.put, List.setIfInBounds_toArray, List.set_cons_zero, List.set_cons_succ]
            refine Gl.wpAny_only (i := 4) (by kernel_rfl) rfl rfl (fun K hK => ?_)
            go_simp
            refine hK _ _ ?_
            clear hK K
            try simp only [Act.put, List.setIfInBounds_toArray, List.set_cons_zero, List.set_cons_succ]
            refine Gl.wpAny_only (i := 11) (by kernel_rfl) rfl rfl (fun K hK => ?_)
            refine wp_copy_none1 _ _ 39 39 rfl 47 9 Tryz.underlying39 size_cond ⟨U1.heap.size, 0, none⟩ 0 0 cc rfl rfl ?_
            refine hK _ _ ?_
            clear hK K
            try simp only [Act.put, List.setIfInBounds_toArray, List.set_cons_zero, List.set_cons_succ]
            refine wpAny_done (by kernel_rfl) ?_ _
            go_wp2
            go_round
            case rel => exact ⟨i + 1, by omega, by go_num, HN⟩
            case measure => simp [intOf]; omega
      | some ad => as_aux_lemma =>
        have hsrc : ∀ j v, (flatC cs)[j]? = some v → U3.drew.cell? (ad.add j) = some v := fun j v hj => by
          have hj9 : j < cs.length * 9 := by rw [← flatC_len cs]; exact (List.getElem?_eq_some_iff.1 hj).1
          obtain ⟨b', off', h1, h2, _⟩ := HIC.out.lie (by omega)
          have hc := flatC_cells HIC.out rfl j v hj
          rw [Option.some.inj h1, add_at] at hc ⊢
          rw [← hc]
          exact (cell_heap (HU3.out b' (by omega) (by omega)) _).trans ((cell_heap (HU1.out b' (by omega)) _).trans (HX.out.below.cell (p := ⟨b', off' + j, none⟩) h2))
        have HN := hide (HN' _ rfl)
        refine wp_region_any (by kernel_rfl) ?_
        change wpAny _ _ _ _ _ _ _ (World.drew _)
        refine Gl.wpAny_takeOf 0 (some 34) (.slice (some ⟨w.heap.size + 1 + 1, 0, none⟩) n n) rfl rfl (by kernel_rfl) (by kernel_rfl) (by kernel_rfl) (fun _ _ _ h => h) (Or.inl ⟨by rfl, ?_⟩) ?_
        · intro wx
          go_simp
        try simp only [Act.put, List.setIfInBounds_toArray, List.set_cons_zero, List.set_cons_succ]
        refine Gl.wpAny_takeOf 1 (some 35) (.int .i64 (i : Nat)) rfl rfl (by kernel_rfl) (by kernel_rfl) (by kernel_rfl) (fun _ _ _ h => h) (Or.inl ⟨by rfl, ?_⟩) ?_
        · intro wx
          go_simp
        try simp only [Act.put, List.setIfInBounds_toArray, List.set_cons_zero, List.set_cons_succ]
        refine Gl.wpAny_takeOf 2 (some 36) (Value.pointer (some ⟨w.heap.size + 1 + 1, i * 4, none⟩)) rfl rfl (by kernel_rfl) (by kernel_rfl) (by kernel_rfl) (fun _ _ _ h => h) (Or.inl ⟨by rfl, ?_⟩) ?_
        · intro wx
          go_simp
        try simp only [Act.put, List.setIfInBounds_toArray, List.set_cons_zero, List.set_cons_succ]
        refine Gl.wpAny_takeOf 3 (some 37) (Value.pointer (some ⟨w.heap.size + 1 + 1, i * 4 + 1, none⟩)) rfl rfl (by kernel_rfl) (by kernel_rfl) (by kernel_rfl) (fun _ _ _ h => h) (Or.inl ⟨by rfl, ?_⟩) ?_
        · intro wx
          go_simp
        try simp only [Act.put, List.setIfInBounds_toArray, List.set_cons_zero, List.set_cons_succ]
        refine Gl.wpAny_takeOf 5 (some 39) (Value.pointer (some ⟨w.heap.size, 0, none⟩)) rfl rfl (by kernel_rfl) (by kernel_rfl) (by kernel_rfl) (fun _ _ _ h => h) (Or.inl ⟨by rfl, ?_⟩) ?_
        · intro wx
          go_simp
        try simp only [Act.put, List.setIfInBounds_toArray, List.set_cons_zero, List.set_cons_succ]
        refine Gl.wpAny_takeOf 7 (some 41) (.int .i64 (i : Nat)) rfl rfl (by kernel_rfl) (by kernel_rfl) (by kernel_rfl) (fun _ _ _ h => h) (Or.inl ⟨by rfl, ?_⟩) ?_
        · intro wx
          go_simp
        try simp only [Act.put, List.setIfInBounds_toArray, List.set_cons_zero, List.set_cons_succ]
        refine wpAny_two (i := 4) (j := 6) (by kernel_rfl) rfl rfl rfl rfl (fun K hK => ?_) (fun K hK => ?_)
        · go_simp
          refine hK _ _ ?_
          clear hK K
          try simp only [Act.put, List.setIfInBounds_toArray, List.set_cons_zero, List.set_cons_succ]
          refine Gl.wpAny_only (i := 6) (by kernel_rfl) rfl rfl (fun K hK => ?_)
          go_simp
          refine hK _ _ ?_
          clear hK K
          try simp only [Act.put, List.setIfInBounds_toArray, List.set_cons_zero, List.set_cons_succ]
          refine Gl.wpAny_takeOf 8 (some 42) (Value.pointer (some ⟨b, off + i * 4, none⟩)) rfl rfl (by kernel_rfl) (by kernel_rfl) (by kernel_rfl) (fun _ _ _ h => h) (Or.inl ⟨by rfl, ?_⟩) ?_
          · intro wx
            go_simp
          try simp only [Act.put, List.setIfInBounds_toArray, List.set_cons_zero, List.set_cons_succ]
          refine Gl.wpAny_takeOf 9 (some 43) (Value.pointer (some ⟨b, off + i * 4 + 1, none⟩)) rfl rfl (by kernel_rfl) (by kernel_rfl) (by kernel_rfl) (fun _ _ _ h => h) (Or.inl ⟨by rfl, ?_⟩) ?_
          · intro wx
            go_simp
          try simp only [Act.put, List.setIfInBounds_toArray, List.set_cons_zero, List.set_cons_succ]
          refine Gl.wpAny_only (i := 10) (by kernel_rfl) rfl rfl (fun K hK => ?_)
          go_simp
          refine hK _ _ ?_
          clear hK K
          try simp only [Act.put, List.setIfInBounds_toArray, List.set_cons_zero, List.set_cons_succ]
          refine Gl.wpAny_only (i := 11) (by kernel_rfl) rfl rfl (fun K hK => ?_)
          refine wp_copy_wide _ _ 39 39 rfl 47 9 Tryz.underlying39 size_cond U1.heap.size m m ad cc rfl rfl z 47 hzr (flatC cs) HFL.out hz hsrc (flatC_one cs) ?_
          refine hK _ _ ?_
          clear hK K
          try simp only [Act.put, List.setIfInBounds_toArray, List.set_cons_zero, List.set_cons_succ]
          refine wpAny_done (by kernel_rfl) ?_ _
          go_wp2
          go_round
          case rel => exact ⟨i + 1, by omega, by go_num, HN⟩
          case measure => simp [intOf]; omega
        · go_simp
          refine hK _ _ ?_
          clear hK K
          try simp only [Act.put, List.setIfInBounds_toArray, List.set_cons_zero, List.set_cons_succ]
          refine Gl.wpAny_takeOf 8 (some 42) (Value.pointer (some ⟨b, off + i * 4, none⟩)) rfl rfl (by kernel_rfl) (by kernel_rfl) (by kernel_rfl) (fun _ _ _ h => h) (Or.inl ⟨by rfl, ?_⟩) ?_
          · intro wx
            go_simp
          try simp only [Act.put, List.setIfInBounds_toArray, List.set_cons_zero, List.set_cons_succ]
          refine Gl.wpAny_takeOf 9 (some 43) (Value.pointer (some ⟨b, off + i * 4 + 1, none⟩)) rfl rfl (by kernel_rfl) (by kernel_rfl) (by kernel_rfl) (fun _ _ _ h => h) (Or.inl ⟨by rfl, ?_⟩) ?_
          · intro wx
            go_simp
          try simp only [Act.put, List.setIfInBounds_toArray, List.set_cons_zero, List.set_cons_succ]
          refine wpAny_two (i := 4) (j := 10) (by kernel_rfl) rfl rfl rfl rfl (fun K hK => ?_) (fun K hK => ?_)
          · go_simp
            refine hK _ _ ?_
            clear hK K
            try simp only [Act.put, List.setIfInBounds_toArray, List.set_cons_zero, List.set_cons_succ]
            refine Gl.wpAny_only (i := 10) (by kernel_rfl) rfl rfl (fun K hK => ?_)
            go_simp
            refine hK _ _ ?_
            clear hK K
            try simp only [Act.put, List.setIfInBounds_toArray, List.set_cons_zero, List.set_cons_succ]
            refine Gl.wpAny_only (i := 11) (by kernel_rfl) rfl rfl (fun K hK => ?_)
            refine wp_copy_wide _ _ 39 39 rfl 47 9 Tryz.underlying39 size_cond U1.heap.size m m ad cc rfl rfl z 47 hzr (flatC cs) HFL.out hz hsrc (flatC_one cs) ?_
            refine hK _ _ ?_
            clear hK K
            try simp only [Act.put, List.setIfInBounds_toArray, List.set_cons_zero, List.set_cons_succ]
            refine wpAny_done (by kernel_rfl) ?_ _
            go_wp2
            go_round
            case rel => exact ⟨i + 1, by omega, by go_num, HN⟩
            case measure => simp [intOf]; omega
          · go_simp
            refine hK _ _ ?_
            clear hK K
            try simp only [Act.put, List.setIfInBounds_toArray, List.set_cons_zero, List.set_cons_succ]
            refine Gl.wpAny_only (i := 4) (by kernel_rfl) rfl rfl (fun K hK => ?_)
            go_simp
            refine hK _ _ ?_
            clear hK K
            try simp only [Act.put, List.setIfInBounds_toArray, List.set_cons_zero, List.set_cons_succ]
            refine Gl.wpAny_only (i := 11) (by kernel_rfl) rfl rfl (fun K hK => ?_)
            refine wp_copy_wide _ _ 39 39 rfl 47 9 Tryz.underlying39 size_cond U1.heap.size m m ad cc rfl rfl z 47 hzr (flatC cs) HFL.out hz hsrc (flatC_one cs) ?_
            refine hK _ _ ?_
            clear hK K
            try simp only [Act.put, List.setIfInBounds_toArray, List.set_cons_zero, List.set_cons_succ]
            refine wpAny_done (by kernel_rfl) ?_ _
            go_wp2
            go_round
            case rel => exact ⟨i + 1, by omega, by go_num, HN⟩
            case measure => simp [intOf]; omega
    · have hnl : ¬ ((i : Int) < (n : Int)) := by omega
      obtain rfl : i = n := by omega
      have c1 : wr.cell? ⟨w.heap.size, 1, none⟩ = some (.int .i64 ak) := cell_of_row _ _ 1 _ _ _ HX.out.box
      have c2 : wr.cell? ⟨w.heap.size, 2, none⟩ = some (.int .i64 ae) := cell_of_row _ _ 2 _ _ _ HX.out.box
      have hres := HX.out.res
      obtain ⟨rc, hrc⟩ : ∃ rc : Array Value, rc = polC (.slice (some ⟨w.heap.size + 2, 0, none⟩) i i) ⟨ak, ae⟩ := ⟨_, rfl⟩
      have h1c : rc.all (·.oneCell') = true := by rw [hrc]; simp [polC, Value.oneCell']
      have HRC := hide hrc
      clear hrc
      go_wp2_with (refine wpList_store_row rfl 26 _ _ rfl (w.heap.size + 1) rc rfl (by rw [HRC.out]; rfl) 26 _ hres (by rw [HRC.out]; exact size_pol) (by rw [HRC.out]; rfl) h1c ?_)
      have hb1 : ∀ k, k ≠ w.heap.size + 1 → (wr.setRow (w.heap.size + 1) rc).heap[k]? = wr.heap[k]? := fun k hk => row_heap wr _ k _ hk
      refine bodyPost_ret (v := .agg rc) (results_cell_row rfl _ _ (w.heap.size + 1) 26 rc (0, 0) _ rfl (setRow_heap _ _ _ _ _ _ hres) Tryz.underlying26 rfl (by rw [HRC.out]; exact size_pol)) rfl ⟨?_, below_setRow HX.out.below (by omega) _⟩
      have hml : rs.length ≤ maxLen := by
        rw [← HN.out]
        unfold maxLen
        omega
      have hPI : PolIn w.heap.size (some ⟨w.heap.size + 2, 0, none⟩) rs.length ⟨rs, ⟨ak, ae⟩⟩ (wr.setRow (w.heap.size + 1) rc) := fun V hV hs => ⟨HX.out.rules HN.out HPK.out.rules (fun r hr => Nat.le_trans (H6.out r hr) (by omega)) (V := V) (fun k h1 h2 => (hV k (by omega) (by rw [row_size]; exact h2)).trans (hb1 k (by omega))) (by rw [row_size] at hs; exact hs), Nat.le_refl _, hml, HPK.out⟩
      exact ⟨some ⟨w.heap.size + 2, 0, none⟩, by rw [HRC.out, HPV.out]; unfold polC; simp only; rw [← HN.out], hPI _ (fun _ _ _ => rfl) (Nat.le_refl _), hPI⟩
end Go.Proofs.YtklibmijiecbfaaGreat

/- New. -/
namespace Go.Proofs.YtklibmijiecbfaaGreat
open Go.RowKit Mm

theorem pol_few {p : POL} (h : polF p = 0) : p.rules.length ≤ 100 ∧ ∀ r ∈ p.rules, r.conds.length ≤ 100 := by
  have hr := (polF_parts h).2
  unfold polF at h
  refine ⟨?_, fun r hm => ?_⟩
  · split at h
    · omega
    · omega
  · have h1 := hr r hm
    unfold ruleF at h1
    split at h1
    · omega
    · split at h1
      · omega
      · omega
/-- What New makes. -/
structure NX (p : POL) (g gm : Nat) (P : PV) (w w' : World) : Prop where
  pol : P.p = p
  ward : WX g gm P newS (.slice none 0 0) w'
  below : Below w.heap.size w w'
  gb : P.bd ≤ g ∧ P.bd ≤ gm ∧ w.heap.size ≤ P.bd
  pin : ∀ V : World, (∀ k, w.heap.size ≤ k → k < P.bd → V.heap[k]? = w'.heap[k]?) → P.bd ≤ V.heap.size → IsPol P.oa P.cap P.p V
  g : w.heap.size ≤ g
  m : w.heap.size ≤ gm
theorem NX.of {p : POL} {ob : Option Addr} {w w2 w3 : World} {gm : Nat} (hw2 : Below w.heap.size w w2) (hI : IsPol ob p.rules.length p w2) (hP : PolIn w.heap.size ob p.rules.length p w2) (hgm : gm = w2.heap.size) (hw3 : Below w2.heap.size w2 w3) (hM : IsM gm zeroM w3) :
    NX p w3.heap.size gm ⟨p, ob, p.rules.length, w2.heap.size⟩ w (w3.alloc (.cells (VA 92 (cellW ⟨p, ob, p.rules.length, w2.heap.size⟩ gm (fun _ => idleT 0) (.slice none 0 0))) 79)) := by
  have hml : gm < w3.heap.size := (Array.getElem?_eq_some_iff.1 hM).1
  have hb := box_below w3 (.cells (VA 92 (cellW ⟨p, ob, p.rules.length, w2.heap.size⟩ gm (fun _ => idleT 0) (.slice none 0 0))) 79)
  refine ⟨rfl, ⟨heap_alloc_new _ _, hM.on hb, World.ownsRow_nil _ _ _ _, by omega, fun k hk => (by cases hk), ?_, fun V hV hs => ?_⟩, below_next (below_next hw2 hw3) hb, ⟨hw3.size, by rw [hgm]; exact Nat.le_refl _, hw2.size⟩, fun V hV hs => hP V (fun k h1 h2 => (hV k h1 h2).trans ((hb.block k (Nat.lt_of_lt_of_le h2 hw3.size)).trans (hw3.block k h2))) hs, ?_, ?_⟩
  · show w2.heap.size ≤ _
    exact Nat.le_trans hw3.size hb.size
  · refine hI.heap (fun k hk => (hV k hk ?_ ?_ (fun e => by cases e)).trans ((hb.block k ?_).trans (hw3.block k hk))) hs
    · have := hw3.size; omega
    · omega
    · have := hw3.size; omega
  · exact Nat.le_trans hw2.size hw3.size
  · rw [hgm]; exact hw2.size
theorem new_err (p : POL) (hp : polF p ≠ 0) (oa : Option Addr) (cap : Nat) (w : World) (h : IsPol oa cap p w) :
    Calls Tryz.prog 8 #[polV p oa cap] w fun e w' => e = .returned (.tuple #[.pointer none, errV (polF p)]) ∧ Below w.heap.size w w' := by
  have HC := pcheck_any p oa cap (w.alloc (.cells (polC (.slice oa p.rules.length cap) p.els) 26)) (h.on (box_below w _))
  rw [errV_pos hp] at HC
  rw [errV_pos hp]
  obtain ⟨f, hf⟩ : ∃ f, f = polF p := ⟨_, rfl⟩
  rw [← hf] at HC
  rw [← hf]
  unfold polV at HC ⊢
  unfold polC at HC
  obtain ⟨n, hn⟩ : ∃ n, n = p.rules.length := ⟨_, rfl⟩
  rw [← hn] at HC
  rw [← hn]
  obtain ⟨rs, ⟨ak, ae⟩⟩ := p
  simp only at HC ⊢
  clear h hf hp hn
  go_enter Tryz.func8, Tryz.ntmps8
  go_wp2_with fail
  refine HC.mono ?_
  rintro e Y ⟨rfl, hY⟩
  go_wp2
  go_ret2
  exact ⟨rfl, below_next (box_below _ _) hY⟩
set_option maxHeartbeats 2000000 in
set_option maxRecDepth 20000 in
theorem new_ok (p : POL) (hp : polF p = 0) (oa : Option Addr) (cap : Nat) (w : World) (h : IsPol oa cap p w) :
    Calls Tryz.prog 8 #[polV p oa cap] w fun e w' => ∃ g gm P, e = .returned (.tuple #[.pointer (some ⟨g, 0, none⟩), .nilIface]) ∧ NX p g gm P w w' := by
  have HC := pcheck_any p oa cap (w.alloc (.cells (polC (.slice oa p.rules.length cap) p.els) 26)) (h.on (box_below w _))
  rw [hp, errV_zero] at HC
  have HP := fun X (hX : IsPol oa cap p X) => copyPol_any p (pol_few hp).1 (pol_few hp).2 oa cap X hX
  have HNX := fun (w2 w3 : World) (ob : Option Addr) (gm : Nat) => NX.of (p := p) (ob := ob) (w := w) (w2 := w2) (w3 := w3) (gm := gm)
  have HI := hide (h.on (box_below w (.cells (polC (.slice oa p.rules.length cap) p.els) 26)))
  have HPP := hide (show ∀ ob, IsPol ob p.rules.length p = IsPol ob p.rules.length p from fun _ => rfl)
  have HPV := hide (show ∀ ob cb, polV p ob cb = .agg #[.slice ob p.rules.length cb, .int .i64 p.els.kind, .int .i64 p.els.errno] from fun _ _ => rfl)
  rw [HPV.out]
  rw [HPV.out] at HC
  simp only [HPV.out] at HP
  unfold polC at HC HI
  obtain ⟨q, hq⟩ : ∃ q, q = p := ⟨_, rfl⟩
  obtain ⟨n, hn⟩ : ∃ n, n = p.rules.length := ⟨_, rfl⟩
  obtain ⟨ak, hak⟩ : ∃ n, n = p.els.kind := ⟨_, rfl⟩
  obtain ⟨ae, hae⟩ : ∃ n, n = p.els.errno := ⟨_, rfl⟩
  have HQN := hide (show q.rules.length = n ∧ q.els.kind = ak ∧ q.els.errno = ae by rw [hq, hn, hak, hae]; exact ⟨rfl, rfl, rfl⟩)
  rw [← hq] at HNX
  simp only [HQN.out.1] at HNX
  simp only [← hn, ← hak, ← hae] at HC HP HI
  rw [← hq, HQN.out.1, HQN.out.2.1, HQN.out.2.2]
  obtain ⟨V, hV, hVb, hVs, hVc⟩ := one_box w #[.slice oa n cap, .int .i64 ak, .int .i64 ae] 26
  have c0 := hVc 0
  have c1 := hVc 1
  have c2 := hVc 2
  simp only [List.getElem?_toArray, List.getElem?_cons_zero, List.getElem?_cons_succ] at c0 c1 c2
  rw [← hV] at HC HI
  have HQ := hide hq
  clear h hq hn hak hae hVc hVs HPV HPP hp
  go_enter Tryz.func8, Tryz.ntmps8
  go_wp2_with fail
  rw [← hV]
  refine HC.mono ?_
  rintro e Y ⟨rfl, hY⟩
  have HB := hide (below_next hVb hY)
  have HIY := hide (HI.out.on hY)
  replace c0 := keep_cell hY c0
  replace c1 := keep_cell hY c1
  replace c2 := keep_cell hY c2
  clear hY hV hVb HC HI
  go_wp2_with fail
  refine (HP Y HIY.out).mono ?_
  rintro e Z ⟨⟨ob, rfl, hIZ, hPZ⟩, hZ⟩
  have HPZ := hide (show PolIn w.heap.size ob n ⟨p.rules, p.els⟩ Z from fun V hV hs => hPZ V (fun k h1 h2 => hV k (Nat.le_trans HB.out.size h1) h2) hs)
  have HBZ := hide (below_next HB.out hZ)
  have HIZ := hide hIZ
  clear hZ c0 c1 c2 hIZ hPZ HP HIY
  go_wp2_with fail
  refine (new_any Z).mono ?_
  rintro e U ⟨rfl, hU, hM⟩
  have HW := hide (HNX Z U ob Z.heap.size HBZ.out (by rw [HQ.out]; exact HIZ.out) (by rw [HQ.out]; exact HPZ.out) rfl hU hM)
  obtain ⟨zt, hzt⟩ : ∃ z, z = VA 92 (cellW ⟨q, ob, n, Z.heap.size⟩ Z.heap.size (fun _ => idleT 0) (.slice none 0 0)) := ⟨_, rfl⟩
  rw [← hzt] at HW
  have HZT := hide (show zt = (Array.ofFn (n := 92) fun i => if (i : Nat) = 0 then .slice ob n n else if (i : Nat) = 1 then .int .i64 ak else if (i : Nat) = 2 then .int .i64 ae else if (i : Nat) = 3 then .pointer (some ⟨Z.heap.size, 0, none⟩) else if (i : Nat) < 91 then cellT (idleT 0) (((i : Nat) - 4) % 29) else .slice none 0 0) by
    rw [hzt, VA_eq]
    unfold VA0 cellW
    simp only [HQN.out.1, HQN.out.2.1, HQN.out.2.2])
  clear hzt hU hM HNX
  have HCC := hide (show (((Tryz.zeroCells79.setIfInBounds 0 (.slice ob n n)).setIfInBounds 1 (.int .i64 ak)).setIfInBounds 2 (.int .i64 ae)).setIfInBounds 3 (.pointer (some ⟨Z.heap.size, 0, none⟩)) = zt by rw [HZT.out]; kernel_rfl)
  go_wp2
  go_ret2
  refine ⟨U.heap.size, Z.heap.size, ⟨q, ob, n, Z.heap.size⟩, rfl, ?_⟩
  rw [HCC.out]
  exact HW.out
end Go.Proofs.YtklibmijiecbfaaGreat
