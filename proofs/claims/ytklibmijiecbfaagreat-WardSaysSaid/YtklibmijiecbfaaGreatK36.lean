/- Step of any thread, Enter of any: what they make of a ward. -/
import Derived.Test.YtklibmijiecbfaaGreatK13
import Derived.Test.YtklibmijiecbfaaGreatK32
import Derived.Test.YtklibmijiecbfaaGreatK16
import Derived.Test.YtklibmijiecbfaaGreatK26
import Derived.Test.YtklibmijiecbfaaGreatK27
import Derived.Test.YtklibmijiecbfaaGreatK33
import Derived.Test.YtklibmijiecbfaaGreatK34
import Derived.Test.YtklibmijiecbfaaGreatK35
import Derived.Test.YtklibmijiecbfaaGreatK31
import Derived.Test.YtklibmijiecbfaaGreatK14
import Derived.Laws.CopyRow
import Derived.Laws.OwnMore
import Derived.Test.YtklibmijiecbfaaGreatK12
import Derived.BigQuiet
namespace Go.Proofs.YtklibmijiecbfaaGreat
open Go.RowKit Mm

def GoesS (g gm : Nat) (P : PV) (r : WS × Bool × Nat) (lv : Value) (W : World) (e : Ending) (w' : World) : Prop := e = .returned (.tuple #[.bool r.2.1, errV r.2.2]) ∧ ∃ lv', WX g gm P r.1 lv' w' ∧ Fr g gm lv lv' W w'
theorem wstep_any {g gm : Nat} {P : PV} {s : WS} {lv : Value} {W : World} (n : Int) (hp : polF P.p = 0) (hi : Inv P.p s) (h : WX g gm P s lv W) (hlog : s.log.length ≤ 1000000) :
  Calls Tryz.prog 15 #[.pointer (some ⟨g, 0, none⟩), .int .i64 n] W (GoesS g gm P (stepW P.p n s) lv W) := by
 by_cases hn : 0 ≤ n ∧ n < 3
 ·
  obtain ⟨k, rfl⟩ : ∃ k : Nat, n = k := ⟨n.toNat, by omega⟩
  have hk : k < 3 := by omega
  have ht := hi.thr k hk
  have hs : stepW P.p k s = if (s.T k).phase = 6 then (s, false, 8) else if (s.T k).phase = 0 then (s, false, 0) else (stepS P.p k s, true, 0) := by
   unfold stepW
   rw [if_pos hn, Int.toNat_natCast]
  rw [hs]
  have go : ∀ (ph : Nat), (s.T k).phase = ph → ph ≠ 6 → ph ≠ 0 → (Calls Tryz.prog 15 #[.pointer (some ⟨g, 0, none⟩), .int .i64 k] W fun e w' => e = .returned (.tuple #[.bool true, .nilIface]) ∧ ∃ lv', WX g gm P (stepS P.p k s) lv' w' ∧ Fr g gm lv lv' W w') →
    Calls Tryz.prog 15 #[.pointer (some ⟨g, 0, none⟩), .int .i64 k] W (GoesS g gm P (if (s.T k).phase = 6 then (s, false, 8) else if (s.T k).phase = 0 then (s, false, 0) else (stepS P.p k s, true, 0)) lv W) := by
   intro ph h0 h6 h00 hc
   rw [if_neg (by omega), if_neg (by omega)]
   exact hc
  rcases seven ht.ph with h0 | h0 | h0 | h0 | h0 | h0 | h0
  ·
   rw [if_neg (by omega), if_pos h0]
   exact (step_idle k hk h0 h).mono fun e w' ⟨he, hw⟩ => ⟨he, lv, by rw [hw]; exact h, by rw [hw]; exact Fr.refl _ _ _ _⟩
  ·
   refine go 1 h0 (by omega) (by omega) ?_
   rw [show stepS P.p k s = filterS P.p k s by unfold stepS; simp only [h0]]
   exact step_1 k hk h0 h ((filter_any k hk hp ht.kl h hlog).mono fun e w' hg => hg)
  ·
   refine go 2 h0 (by omega) (by omega) ?_
   rw [show stepS P.p k s = snapS k s by unfold stepS; simp only [h0]]
   exact step_2 k hk h0 h ((snap_any k hk hi h0 h hlog).mono fun e w' hg => hg)
  ·
   refine go 3 h0 (by omega) (by omega) ?_
   rw [show stepS P.p k s = judgeS P.p k s by unfold stepS; simp only [h0]]
   exact step_3 k hk h0 h ((wjudge_any k hk hp ht.kl (ht.vok (by omega) (by omega)).vs h hlog).mono fun e w' hg => hg)
  ·
   refine go 4 h0 (by omega) (by omega) ?_
   rw [show stepS P.p k s = sealS k s by unfold stepS; simp only [h0]]
   exact step_4 k hk h0 h ((seal_any k hk hi h0 h hlog).mono fun e w' hg => hg)
  ·
   refine go 5 h0 (by omega) (by omega) ?_
   rw [show stepS P.p k s = execS k s by unfold stepS; simp only [h0]]
   exact step_5 k hk h0 h ((exec_any k hk hi h0 h hlog).mono fun e w' hg => hg)
  ·
   rw [if_pos h0]
   have hf : aliveF k s = 8 := by unfold aliveF; rw [if_pos hn, Int.toNat_natCast, if_pos h0]
   have hc := step_err (k : Int) (by rw [hf]; omega) h
   rw [hf] at hc
   exact hc.mono fun e w' ⟨he, hw⟩ => ⟨he, lv, by rw [hw]; exact h, by rw [hw]; exact Fr.refl _ _ _ _⟩
 ·
  have hs : stepW P.p n s = (s, false, 1) := by unfold stepW; rw [if_neg hn]
  have hf : aliveF n s = 1 := by unfold aliveF; rw [if_neg hn]
  rw [hs]
  have hc := step_err n (by rw [hf]; omega) h
  rw [hf] at hc
  exact hc.mono fun e w' ⟨he, hw⟩ => ⟨he, lv, by rw [hw]; exact h, by rw [hw]; exact Fr.refl _ _ _ _⟩
theorem wenter_any {g gm : Nat} {P : PV} {s : WS} {lv : Value} {W : World} (n : Int) (c : KL) (h : WX g gm P s lv W) :
  Calls Tryz.prog 14 #[.pointer (some ⟨g, 0, none⟩), .int .i64 n, klV c] W fun e w' => e = .returned (errV (enterW n c s).2) ∧ WX g gm P (enterW n c s).1 lv w' ∧ Fr g gm lv lv W w' := by
 by_cases hn : 0 ≤ n ∧ n < 3
 ·
  obtain ⟨k, rfl⟩ : ∃ k : Nat, n = k := ⟨n.toNat, by omega⟩
  have hk : k < 3 := by omega
  have hs : enterW k c s = if (s.T k).phase = 6 then (s, 8) else if (s.T k).phase = 0 then (s.put k (enterT c), 0) else (s, 7) := by
   unfold enterW
   rw [if_pos hn, Int.toNat_natCast]
  rw [hs]
  by_cases h6 : (s.T k).phase = 6
  ·
   rw [if_pos h6]
   have hf : aliveF k s = 8 := by unfold aliveF; rw [if_pos hn, Int.toNat_natCast, if_pos h6]
   have hc := wenter_err (k : Int) c (by rw [hf]; omega) h
   rw [hf] at hc
   exact hc.mono fun e w' ⟨he, hb⟩ => ⟨he, h.on hb, Fr.of lv hb⟩
  ·
   rw [if_neg h6]
   by_cases h0 : (s.T k).phase = 0
   ·
    rw [if_pos h0]
    exact wenter_ok k hk c h0 h
   ·
    rw [if_neg h0]
    exact (wenter_busy k hk c h0 h6 h).mono fun e w' ⟨he, hb⟩ => ⟨he, h.on hb, Fr.of lv hb⟩
 ·
  have hs : enterW n c s = (s, 1) := by unfold enterW; rw [if_neg hn]
  have hf : aliveF n s = 1 := by unfold aliveF; rw [if_neg hn]
  rw [hs]
  have hc := wenter_err n c (by rw [hf]; omega) h
  rw [hf] at hc
  exact hc.mono fun e w' ⟨he, hb⟩ => ⟨he, h.on hb, Fr.of lv hb⟩
end Go.Proofs.YtklibmijiecbfaaGreat

/- The document's Step and Enter of any thread, beside the code's. -/
namespace Go.Proofs.YtklibmijiecbfaaGreat
open Go.RowKit Mm

theorem seals_ok {p : POL} {t : TH} {u : DT} (hT : TOk p t) (ht : Tie t u) : SealOk u :=
 ⟨by rw [ht.seals]; unfold sealsOf; rw [List.length_map]; exact Nat.le_trans (List.length_filter_le _ _) (by simp), fun x hx => by
  rw [ht.seals] at hx
  unfold sealsOf at hx
  obtain ⟨i, _, rfl⟩ := List.mem_map.1 hx
  exact hT.ar i⟩
def DGoesS (g : Nat) (P : PV) (r : WS × Bool × Nat) (sv : Nat → Value) (lv : Value) (W : World) (e : Ending) (w' : World) : Prop := e = .returned (.tuple #[.bool r.2.1, .int .i64 (r.2.2 : Nat)]) ∧ ∃ d' sv' lv', TieW r.1 d' ∧ DX g P d' sv' lv' w' ∧ DFr g sv lv sv' lv' W w'
theorem dstep_any {g : Nat} {P : PV} {d : DWS} {sv : Nat → Value} {lv : Value} {W : World} {s : WS} (n : Int) (hp : polF P.p = 0) (hok : PolOk P.p) (hi : Inv P.p s) (ht : TieW s d) (h : DX g P d sv lv W) (hlog : d.log.length ≤ 1000000) :
  Calls Tryz.prog 38 #[.pointer (some ⟨g, 0, none⟩), .int .i64 n] W (DGoesS g P (stepW P.p n s) sv lv W) := by
 by_cases hn : 0 ≤ n ∧ n < 3
 ·
  obtain ⟨k, rfl⟩ : ∃ k : Nat, n = k := ⟨n.toNat, by omega⟩
  have hk : k < 3 := by omega
  have hT := hi.thr k hk
  have hu := ht.thr k hk
  have hph := hu.phase
  have hso := seals_ok hT hu
  have hts := tie_step hp hi ht hk
  have hs : stepW P.p k s = if (s.T k).phase = 6 then (s, false, 8) else if (s.T k).phase = 0 then (s, false, 0) else (stepS P.p k s, true, 0) := by
   unfold stepW
   rw [if_pos hn, Int.toNat_natCast]
  rw [hs]
  have go : ∀ (ph : Nat), (s.T k).phase = ph → ph ≠ 6 → ph ≠ 0 → (Calls Tryz.prog 38 #[.pointer (some ⟨g, 0, none⟩), .int .i64 k] W fun e w' => e = .returned (.tuple #[.bool true, .int .i64 0]) ∧ ∃ sv' lv', DX g P (dstepS P.p k d) sv' lv' w' ∧ DFr g sv lv sv' lv' W w') →
    Calls Tryz.prog 38 #[.pointer (some ⟨g, 0, none⟩), .int .i64 k] W (DGoesS g P (if (s.T k).phase = 6 then (s, false, 8) else if (s.T k).phase = 0 then (s, false, 0) else (stepS P.p k s, true, 0)) sv lv W) := by
   intro ph h0 h6 h00 hc
   rw [if_neg (by omega), if_neg (by omega)]
   exact hc.mono fun e w' ⟨he, sv', lv', h1, h2⟩ => ⟨he, dstepS P.p k d, sv', lv', hts, h1, h2⟩
  rcases seven hT.ph with h0 | h0 | h0 | h0 | h0 | h0 | h0
  ·
   rw [if_neg (by omega), if_pos h0]
   exact (dstep_idle k hk (hph.trans h0) h).mono fun e w' ⟨he, hw⟩ => ⟨he, d, sv, lv, ht, by rw [hw]; exact h, by rw [hw]; exact DFr.refl _ _ _ _⟩
  ·
   refine go 1 h0 (by omega) (by omega) ?_
   rw [show dstepS P.p k d = dfilter P.p k d by unfold dstepS; simp only [hph, h0]]
   have hent := hT.ent h0
   refine (dstep_1 k hk hp hok (by rw [hu.call]; exact hT.kl) (hph.trans h0) (fun i h4 => ?_) h hlog hso).mono fun e w' hg => hg
   rw [hu.now i h4, hu.call, hent]
   rfl
  ·
   refine go 2 h0 (by omega) (by omega) ?_
   rw [show dstepS P.p k d = dsnap k d by unfold dstepS; simp only [hph, h0]]
   have h8 := hT.trc (by omega) (by omega)
   obtain ⟨hseen, hrd⟩ := hT.snap h0
   obtain ⟨ha1, ha2, _⟩ := hu.arg h0
   have hm : ptAt (s.T k) ∈ ptsOf (s.T k).call.nr := by
    unfold ptAt
    rw [List.getD_eq_getElem?_getD, List.getElem?_eq_getElem hseen]
    exact List.getElem_mem hseen
   obtain ⟨_, hat4, hkind⟩ := pts_of hm
   refine dstep_2 k hk (hph.trans h0) h ((dsnap_any k hk (by rw [hu.call]; exact h8) (by rw [ha1]; exact hat4) (by rw [hu.call, ha1]; exact hkind) (by
    rw [ha1, ha2]
    rcases hkind with h2 | h3
    ·
     exact (hrd.2 (by omega)).1
    ·
     have := hrd.1 h3; omega) (by rw [ht.mem]; exact hi.mem.fine.bytes) h hlog hso).mono fun e w' hg => hg)
  ·
   refine go 3 h0 (by omega) (by omega) ?_
   rw [show dstepS P.p k d = ddone k (decideR P.p (d.T k).asked (vsOf (d.T k).vals)) 4 d by unfold dstepS; simp only [hph, h0]]
   exact (dstep_3 k hk hp hok (by rw [hu.call]; exact hT.kl) (by rw [hu.vals]; exact (hT.vok (by omega) (by omega)).vs) (hph.trans h0) h hlog hso).mono fun e w' hg => hg
  ·
   refine go 4 h0 (by omega) (by omega) ?_
   rw [show dstepS P.p k d = dsealL k (ptsOf (d.T k).asked.nr) d by unfold dstepS; simp only [hph, h0]]
   have h8 := hT.trc (by omega) (by omega)
   have hpl := (hT.plain (by omega)).1
   refine dstep_4 k hk (hph.trans h0) h ((dseal_any k hk (by rw [hu.call]; exact h8) (fun j _ hj hk2 => ?_) ?_ h hlog).mono fun e w' hg => hg)
   ·
    rw [hu.call] at hk2 ⊢
    rw [hu.vals]
    have := ((hT.vok (by omega) (by omega)) j).1
    rw [(hT.full (by omega) (by omega)).1, List.take_length] at this
    exact this (pts_mem h8 hj hk2)
   ·
    rw [hu.seals]
    unfold sealsOf
    rw [show (fun i => (s.T k).sld i) = fun _ => false from funext hpl]
    simp
  ·
   refine go 5 h0 (by omega) (by omega) ?_
   rw [show dstepS P.p k d = dexec k d by unfold dstepS; simp only [hph, h0]]
   have hkl := hT.kl
   have hnow : ∀ i, i < 4 → (d.T k).now i < 18446744073709551616 := fun i h4 => by rw [hu.now i h4]; exact hT.ar i
   refine dstep_5 k hk (hph.trans h0) h ((dexec_any k hk ⟨by show (d.T k).asked.arch < _; rw [hu.call]; exact hkl.arch, by show (d.T k).asked.nr < _; rw [hu.call]; exact hkl.nr, hnow 0 (by omega), hnow 1 (by omega), hnow 2 (by omega), hnow 3 (by omega)⟩ h hlog hso).mono fun e w' hg => hg)
  ·
   rw [if_pos h0]
   exact (dstep_dead k hk (hph.trans h0) h).mono fun e w' ⟨he, hw⟩ => ⟨he, d, sv, lv, ht, by rw [hw]; exact h, by rw [hw]; exact DFr.refl _ _ _ _⟩
 ·
  have hs : stepW P.p n s = (s, false, 1) := by unfold stepW; rw [if_neg hn]
  rw [hs]
  exact (dstep_bad g n hn).mono fun e w' ⟨he, hw⟩ => ⟨he, d, sv, lv, ht, by rw [hw]; exact h, by rw [hw]; exact DFr.refl _ _ _ _⟩
theorem denter_any {g : Nat} {P : PV} {d : DWS} {sv : Nat → Value} {lv : Value} {W : World} {s : WS} (n : Int) (c : KL) (ht : TieW s d) (h : DX g P d sv lv W) :
  Calls Tryz.prog 37 #[.pointer (some ⟨g, 0, none⟩), .int .i64 n, klV c] W fun e w' => e = .returned (.int .i64 ((enterW n c s).2 : Nat)) ∧ ∃ d' sv', TieW (enterW n c s).1 d' ∧ DX g P d' sv' lv w' ∧ DFr g sv lv sv' lv W w' := by
 by_cases hn : 0 ≤ n ∧ n < 3
 ·
  obtain ⟨k, rfl⟩ : ∃ k : Nat, n = k := ⟨n.toNat, by omega⟩
  have hk : k < 3 := by omega
  have hph := (ht.thr k hk).phase
  have hs : enterW k c s = if (s.T k).phase = 6 then (s, 8) else if (s.T k).phase = 0 then (s.put k (enterT c), 0) else (s, 7) := by
   unfold enterW
   rw [if_pos hn, Int.toNat_natCast]
  rw [hs]
  by_cases h6 : (s.T k).phase = 6
  ·
   rw [if_pos h6]
   exact (denter_dead k hk c (hph.trans h6) h).mono fun e w' ⟨he, hb⟩ => ⟨he, d, sv, ht, h.on hb, DFr.of sv lv hb⟩
  ·
   rw [if_neg h6]
   by_cases h0 : (s.T k).phase = 0
   ·
    rw [if_pos h0]
    exact (denter_ok k hk c (hph.trans h0) h).mono fun e w' ⟨he, sv', h1, h2⟩ => ⟨he, _, sv', ht.put k (tie_enter c), h1, h2⟩
   ·
    rw [if_neg h0]
    exact (denter_busy k hk c (by rw [hph]; exact h0) (by rw [hph]; exact h6) h).mono fun e w' ⟨he, hb⟩ => ⟨he, d, sv, ht, h.on hb, DFr.of sv lv hb⟩
 ·
  have hs : enterW n c s = (s, 1) := by unfold enterW; rw [if_neg hn]
  rw [hs]
  exact (denter_bad g n c hn).mono fun e w' ⟨he, hb⟩ => ⟨he, d, sv, ht, h.on hb, DFr.of sv lv hb⟩
theorem TieW.memo {s : WS} {d : DWS} (h : TieW s d) (m : MS) : TieW { s with mem := m } { d with mem := m } := ⟨h.thr, rfl, h.log⟩
end Go.Proofs.YtklibmijiecbfaaGreat

/- did: an act on a ward. -/
namespace Go.Proofs.YtklibmijiecbfaaGreat
open Go.RowKit Mm

def acC (x : AC) : Array Value := #[.string x.kind, .int .i64 x.n, .int .u64 x.a, .string x.s, .bool x.wr, .int .u32 x.c0, .int .u32 x.c1, .int .u64 x.c2, .int .u64 x.c3, .int .u64 x.c4, .int .u64 x.c5]
def acA (x : AC) (k : KL) : Array Value := #[.string x.kind, .int .i64 x.n, .int .u64 x.a, .string x.s, .bool x.wr, .int .u32 k.arch, .int .u32 k.nr, .int .u64 k.a0, .int .u64 k.a1, .int .u64 k.a2, .int .u64 k.a3]
theorem acC_kl {x : AC} (h : x.callOk) : acC x = acA x (kcall x) := by
 obtain ⟨h0, h1, h2, h3, h4, h5⟩ := h
 unfold acC acA kcall
 simp only
 rw [Int.toNat_of_nonneg h0.1, Int.toNat_of_nonneg h1.1, Int.toNat_of_nonneg h2.1, Int.toNat_of_nonneg h3.1, Int.toNat_of_nonneg h4.1, Int.toNat_of_nonneg h5.1]
theorem kcall_ok {x : AC} (h : x.callOk) : KlOk (kcall x) := by
 obtain ⟨h0, h1, h2, h3, h4, h5⟩ := h
 unfold kcall
 exact ⟨by show x.c0.toNat < _; omega, by show x.c1.toNat < _; omega, by show x.c2.toNat < _; omega, by show x.c3.toNat < _; omega, by show x.c4.toNat < _; omega, by show x.c5.toNat < _; omega⟩
end Go.Proofs.YtklibmijiecbfaaGreat

/- The builtin copy, of elements of many cells. -/
namespace Go.Proofs.YtklibmijiecbfaaGreat
open Go.RowKit Mm

theorem run_copy_wide (P : Program) (w : World) (dT sT ty elem : TypeId) (sz g o dLen dCap : Nat) (a : Addr) (sLen sCap : Nat) (cur : Array Value) (t : TypeId) (cs : List Value) (k : Nat)
  (hu : P.underlying dT = some (.slice elem)) (hs : (P.info? elem).map (·.size) = some sz)
  (hg : w.heap[g]? = some (.cells cur t (0, 0))) (hk : k = Nat.min sLen dLen) (hn : cs.length = k * sz)
  (hsrc : ∀ j v, cs[j]? = some v → w.cell? (a.add j) = some v) (hfit : o + cs.length ≤ cur.size) (h1 : ∀ v ∈ cs, v.oneCell' = true) :
  (Builtin.copy_ #[dT, sT] ty #[.slice (some ⟨g, o, none⟩) dLen dCap, .slice (some a) sLen sCap]).run P w =
   .ok (goInt k) (w.setRow g (cur.toList.take o ++ cs ++ cur.toList.drop (o + cs.length)).toArray) := by
 have hl := run_loadCells_list (P := P) w a cs hsrc
 have hst := run_storeCells_at P g o t cs 0 cur w hg (by simpa using hfit) h1
 cases hq : P.info? elem with
 | none => simp [hq] at hs
 | some i =>
  have hi : i.size = sz := by simpa [hq] using hs
  simp [Builtin.copy_, run_underlying hu, Builtin.lenOf, Builtin.firstCells, sizeOf, typeInfo, hq, hi, ← hk, ← hn, hl, hst]
theorem wpList_copy_wide {P : Program} {w : World} {ops : Array Oper} {rest : List Oper} {o : Oper} {a : Act} {Q : Exit → Act → World → Prop} (hgd : o.guard = none) (d s : Operand) (dT sT : TypeId)
  (ho : o.op = .call { callee := .builtin .copy, args := #[d, s], argTypes := #[dT, sT] }) (elem : TypeId) (sz : Nat) (hu : P.underlying dT = some (.slice elem)) (hsz : (P.info? elem).map (·.size) = some sz)
  (g k dCap : Nat) (ad : Addr) (sCap : Nat) (hd : a.eval d = .slice (some ⟨g, 0, none⟩) k dCap) (hs : a.eval s = .slice (some ad) k sCap)
  (cur : Array Value) (t : TypeId) (hg : w.heap[g]? = some (.cells cur t (0, 0))) (cs : List Value) (hn : cs.length = k * sz) (hcur : cur.size = k * sz)
  (hsrc : ∀ j v, cs[j]? = some v → w.cell? (ad.add j) = some v) (h1 : ∀ v ∈ cs, v.oneCell' = true)
  (h : wpList P ops Q rest (a.put o.dst (goInt k)) (w.setRow g cs.toArray)) : wpList P ops Q (o :: rest) a w := by
 refine wpList_plain hgd fun K hK => ?_
 have hrun := run_copy_wide P w dT sT o.type elem sz g 0 k dCap ad k sCap cur t cs k hu hsz hg (Nat.min_self k).symm hn hsrc (by omega) h1
 rw [List.take_zero, List.nil_append, Nat.zero_add, List.drop_eq_nil_of_le (by simp; omega), List.append_nil] at hrun
 unfold Oper.wp
 simp [execOp, ho, resolve, invoke, builtin, hd, hs, hrun, Result.andThen]
 exact hK _ _ h
theorem wpList_copy_none0 {P : Program} {w : World} {ops : Array Oper} {rest : List Oper} {o : Oper} {a : Act} {Q : Exit → Act → World → Prop} (hgd : o.guard = none) (d s : Operand) (dT sT : TypeId)
  (ho : o.op = .call { callee := .builtin .copy, args := #[d, s], argTypes := #[dT, sT] }) (elem : TypeId) (sz : Nat) (hu : P.underlying dT = some (.slice elem)) (hsz : (P.info? elem).map (·.size) = some sz)
  (ad : Addr) (k dCap : Nat) (hd : a.eval d = .slice (some ad) k dCap) (hs : a.eval s = .slice none 0 0)
  (h : wpList P ops Q rest (a.put o.dst (goInt 0)) w) : wpList P ops Q (o :: rest) a w := by
 refine wpList_plain hgd fun K hK => ?_
 have hrun := run_copy_nil P w dT sT o.type elem ad k dCap hu (by rw [hsz]; rfl)
 unfold Oper.wp
 simp [execOp, ho, resolve, invoke, builtin, hd, hs, hrun, Result.andThen]
 exact hK _ _ h
end Go.Proofs.YtklibmijiecbfaaGreat

/- LightPolicy, LightValues. -/
namespace Go.Proofs.YtklibmijiecbfaaGreat
open Go.RowKit Go.Sort

def lightC (c : CD) : Bool := decide (c.glob.size ≤ 60)
def lightR (r : RL) : Bool := decide (r.conds.length ≤ 6) && r.conds.all lightC
def lightB (p : POL) : Bool := decide (p.rules.length ≤ 14) && p.rules.all lightR
set_option maxHeartbeats 4000000 in
theorem lightPol_any (p : POL) (oa : Option Addr) (cap : Nat) (w : World) (h : IsPol oa cap p w) :
  Calls Tryz.prog 5 #[polV p oa cap] w fun e w' => e = .returned (.bool (lightB p)) ∧ Below w.heap.size w w' := by
 obtain ⟨n, hn⟩ : ∃ n, n = p.rules.length := ⟨_, rfl⟩
 have HC := hide (pol_parts h n hn)
 have hmax : n ≤ 9223372036854775807 := by have h1 := h.le; have h2 := h.cap; unfold maxLen at h2; omega
 clear h
 obtain ⟨rs, ⟨ak, ae⟩⟩ := p
 unfold polV
 simp only at HC hn ⊢
 rw [← hn]
 have HZ := hide (show lightB ⟨rs, ⟨ak, ae⟩⟩ = (decide (n ≤ 14) && rs.all lightR) by rw [hn]; rfl)
 obtain ⟨z, hz⟩ : ∃ z, z = lightB ⟨rs, ⟨ak, ae⟩⟩ := ⟨_, rfl⟩
 rw [← hz] at HZ ⊢
 have HN := hide hn
 have HL := hide (show ∀ i, i < n → ∃ c, rs[i]? = some c ∧ rs.take (i + 1) = rs.take i ++ [c] from fun i h => take_next (by omega))
 clear hn hz
 obtain ⟨V, hV, hB, hsz, hx⟩ := one_box w #[.slice oa n cap, .int .i64 ak, .int .i64 ae] 26
 have x0 := hx 0
 simp only [List.getElem?_toArray, List.getElem?_cons_zero] at x0
 clear hx
 by_cases h14 : 14 < n
 ·
  have HF := hide (show z = false by rw [HZ.out, decide_eq_false (by omega), Bool.false_and])
  go_enter Tryz.func5, Tryz.ntmps5
  go_wp2
  go_ret
  exact ⟨ret_bool HF.out.symm, box_below _ _⟩
 have HZ2 := hide (show z = rs.all lightR by rw [HZ.out, decide_eq_true (by omega), Bool.true_and])
 clear HZ
 go_enter Tryz.func5, Tryz.ntmps5
 go_wp2
 rw [← hV]
 clear hV
 go_loopw [3] (fun I w' => ∃ i : Nat, i ≤ n ∧ I = .int .i64 i ∧ Hid ((rs.take i).all lightR = true) ∧ w' = V) (fun I _ => n - (intOf I).toNat)
 case atStart => exact ⟨0, by omega, rfl, hide rfl, rfl⟩
 case round =>
  obtain ⟨i, hi, rfl, HG, hwr⟩ := hrel
  replace hwr := hwr.symm
  subst hwr
  by_cases hlt : i < n
  ·
   obtain ⟨c, hcs, hcat⟩ := HL.out i hlt
   obtain ⟨b, off, rfl, hbw, HA⟩ := HC.out (by omega)
   obtain ⟨ca, cc, hR0⟩ := HA.out i c hcs
   have hR := hR0.on hbw hB
   clear hR0
   have k1 := hR.k1
   have HQ := hide (all_take_snoc (f := lightR) hcat HG.out)
   obtain ⟨m, hm⟩ : ∃ m, m = c.conds.length := ⟨_, rfl⟩
   rw [← hm] at k1
   have HCC := hide (conds_parts hR.conds m hm)
   have hmm : m ≤ 9223372036854775807 := by have h1 := hR.le; have h2 := hR.cap; unfold maxLen at h2; omega
   have HLR := hide (show lightR c = (decide (m ≤ 6) && c.conds.all lightC) by rw [hm]; rfl)
   have HCL := hide (show ∀ j, j < m → ∃ x, c.conds[j]? = some x ∧ c.conds.take (j + 1) = c.conds.take j ++ [x] from fun j h => take_next (by omega))
   have HM := hide hm
   clear hm hR hcs hcat
   by_cases h6 : 6 < m
   ·
    have HF := hide (show z = false by
     rw [HZ2.out]
     refine all_take_false (i := i + 1) ?_
     rw [HQ.out, HLR.out, decide_eq_false (by omega), Bool.false_and])
    go_wp2
    go_ret
    exact ⟨ret_bool HF.out.symm, hB⟩
   have HLR2 := hide (show lightR c = c.conds.all lightC by rw [HLR.out, decide_eq_true (by omega), Bool.true_and])
   clear HLR
   go_wp2
   go_loopw [4] (fun J w' => ∃ j : Nat, j ≤ m ∧ J = .int .i64 j ∧ Hid ((c.conds.take j).all lightC = true) ∧ w' = V) (fun J _ => m - (intOf J).toNat)
   case atStart => exact ⟨0, by omega, rfl, hide rfl, rfl⟩
   case round =>
    obtain ⟨j, hj, rfl, HGJ, hwr⟩ := hrel
    replace hwr := hwr.symm
    subst hwr
    by_cases hjl : j < m
    ·
     obtain ⟨x, hxs, hxcat⟩ := HCL.out j hjl
     obtain ⟨b2, off2, rfl, hbw2, HA2⟩ := HCC.out (by omega)
     have k4 := (HA2.out j x hxs).k4
     have HQ2 := hide (all_take_snoc (f := lightC) hxcat HGJ.out)
     have HLC := hide (show lightC x = decide (x.glob.size ≤ 60) from rfl)
     obtain ⟨gl, hgl⟩ : ∃ g, g = x.glob := ⟨_, rfl⟩
     rw [← hgl] at k4 HLC
     clear hgl hxs hxcat
     by_cases h60 : 60 < gl.size
     ·
      have HF := hide (show z = false by
       rw [HZ2.out]
       refine all_take_false (i := i + 1) ?_
       rw [HQ.out, HLR2.out]
       refine all_take_false (i := j + 1) ?_
       rw [HQ2.out, HLC.out, decide_eq_false (by omega)])
      go_wp2
      go_ret
      exact ⟨ret_bool HF.out.symm, hB⟩
     ·
      replace HQ2 := hide (show (c.conds.take (j + 1)).all lightC = true by rw [HQ2.out, HLC.out, decide_eq_true (by omega)])
      go_wp2
      go_round
      case rel => exact ⟨j + 1, by omega, by go_num, HQ2, trivial⟩
      case measure => simp [intOf]; omega
    ·
     obtain rfl : j = m := by omega
     have HQ3 := hide (show (rs.take (i + 1)).all lightR = true by
      rw [HQ.out, HLR2.out]
      have := HGJ.out
      rwa [List.take_of_length_le (by rw [HM.out]; exact Nat.le_refl _)] at this)
     go_wp2
     go_round
     case rel => exact ⟨i + 1, by omega, by go_num, HQ3, trivial⟩
     case measure => simp [intOf]; omega
  ·
   obtain rfl : i = n := by omega
   have HF := hide (show z = true by
    have := HG.out
    rw [List.take_of_length_le (by rw [HN.out]; exact Nat.le_refl _)] at this
    rw [HZ2.out, this])
   go_wp2
   go_ret
   exact ⟨ret_bool HF.out.symm, hB⟩

end Go.Proofs.YtklibmijiecbfaaGreat

/- SamePolicy, of two that are alike. -/
namespace Go.Proofs.YtklibmijiecbfaaGreat
open Go.RowKit Go.Sort

end Go.Proofs.YtklibmijiecbfaaGreat
