/- policy.Parse. -/
import Derived.Test.YtkogafponpjdnaaGreatDoorK6
import Derived.Test.YtkogafponpjdnaaGreatDoorK1
import Derived.ProofKit
import Derived.Carry
import Derived.OpenShut
import Derived.Deep.Slices
import Derived.Lib.SmallJoins
namespace Go.Proofs.YtkogafponpjdnaaGreatDoor
open Go.RowKit Go.Sort

def zeroPol : POL := ⟨[], ⟨0, 0⟩⟩
/-- What Parse gives: a policy, and the error's number. -/
def parseP (s : W8) : POL × Nat := if 8000 < s.length then (zeroPol, 2) else match docP s with
  | some p => (p, 0)
  | none => (zeroPol, 4)
theorem zeroPol_is (W : World) : IsPol none 0 zeroPol W := ⟨IsRules.nil _ _, Nat.le_refl _, by unfold maxLen; omega, ⟨fun r hr => (by cases hr), ⟨i64_nat (k := 0) (by omega), i64_nat (k := 0) (by omega)⟩⟩⟩
theorem results_pol {fn : Func} {p u : Tmp} (h : fn.results = #[.cell p 26, .tmp u]) (tmps : Array Value) (w : World) (g : Nat) (cs : Array Value) (v : Value) (hs : cs.size = 3)
    (hp : tmps.getD p undef = .pointer (some ⟨g, 0, none⟩)) (hv : tmps.getD u undef = v) (hg : w.heap[g]? = some (.cells cs 26 (0, 0))) :
    (results fn tmps).run Tryz.prog w = .ok (.tuple #[.agg cs, v]) w := by
  rw [results_cell_tmp h, hp, hv]
  have hl := run_loadVar_row (P := Tryz.prog) w g 26 26 cs (0, 0) _ hg Tryz.underlying26 rfl (by rw [hs]; exact size_pol)
  simp [asAddr, hl]
/-- What lies in the row of a result that is still nought. -/
theorem nought_row {Z : World} {r j : Nat} {v : Value} (h : Z.heap[r]? = some (.cells #[.slice none 0 0, .int .i64 0, .int .i64 0] 26 (0, 0))) (hc : Z.cell? ⟨r, j, none⟩ = some v) : (j = 0 ∧ v = .slice none 0 0) ∨ v = .int .i64 0 := by
  rw [cell_of_row _ _ j _ _ _ h] at hc
  match j, hc with
  | 0, hc => left; simp at hc; exact ⟨rfl, hc.symm⟩
  | 1, hc => right; simp at hc; exact hc.symm
  | 2, hc => right; simp at hc; exact hc.symm
  | j + 3, hc => simp at hc
theorem IsConds.apart {oa : Option Addr} {cs : List CD} {Z : World} {r : Nat} (h : IsConds oa cs Z) (hr : Z.heap[r]? = some (.cells #[.slice none 0 0, .int .i64 0, .int .i64 0] 26 (0, 0))) (c : Array Value) : IsConds oa cs (Z.setRow r c) :=
  ⟨fun h0 => by
    obtain ⟨b, off, h1, h2, h3⟩ := h.lie h0
    have hne : b ≠ r := fun e => by
      subst e
      obtain ⟨y, hy⟩ : ∃ y, cs[0]? = some y := ⟨_, List.getElem?_eq_getElem h0⟩
      rcases nought_row hr (h3 0 y hy).k2 with ⟨_, h5⟩ | h5
      · cases h5
      · cases h5
    exact ⟨b, off, h1, by rw [row_size]; exact h2, fun i x hi => (h3 i x hi).on fun j => cell_heap (row_heap Z r b c hne) j⟩⟩
theorem IsPol.apart {oa : Option Addr} {cap : Nat} {p : POL} {Z : World} {r : Nat} (h : IsPol oa cap p Z) (hr : Z.heap[r]? = some (.cells #[.slice none 0 0, .int .i64 0, .int .i64 0] 26 (0, 0))) (c : Array Value) : IsPol oa cap p (Z.setRow r c) :=
  ⟨⟨fun h0 => by
    obtain ⟨b, off, h1, h2, h3⟩ := h.rules.lie h0
    have hne : b ≠ r := fun e => by
      subst e
      obtain ⟨y, hy⟩ : ∃ y, p.rules[0]? = some y := ⟨_, List.getElem?_eq_getElem h0⟩
      obtain ⟨ca, cc, h4⟩ := h3 0 y hy
      rcases nought_row hr h4.k1 with ⟨h5, _⟩ | h5
      · omega
      · cases h5
    refine ⟨b, off, h1, by rw [row_size]; exact h2, fun i x hi => ?_⟩
    obtain ⟨ca, cc, h4⟩ := h3 i x hi
    have hc := fun j => cell_heap (row_heap Z r b c hne) j
    exact ⟨ca, cc, (hc _).trans h4.k0, (hc _).trans h4.k1, (hc _).trans h4.k2, (hc _).trans h4.k3, h4.conds.apart hr c, h4.le, h4.cap, h4.ok⟩⟩, h.le, h.cap, h.ok⟩
theorem polC_one (oa : Option Addr) (n cap : Nat) (k e : Int) : (#[.slice oa n cap, .int .i64 k, .int .i64 e] : Array Value).all (·.oneCell') = true := by simp [Value.oneCell']

set_option maxHeartbeats 2000000 in
theorem pparse_any (s : W8) (hs : s.length ≤ 9000) (w : World) (hE : EV w) : Calls Tryz.prog 19 #[.string (bs s)] w fun e w' => (∃ oa cap, e = .returned (.tuple #[polV (parseP s).1 oa cap, errV (parseP s).2]) ∧ IsPol oa cap (parseP s).1 w') ∧ Below w.heap.size w w' := by
  have hsz := bs_size s
  have hbl := bs_toList s
  have HRD := fun X hX => read_any s hs X hX
  have hps := parse_same s (readP_ok s)
  obtain ⟨q, hq⟩ : ∃ q, q = bs s := ⟨_, rfl⟩
  rw [← hq] at hsz hbl HRD ⊢
  clear hq
  obtain ⟨V0, hV0, hV0h, hV0b, hV0s⟩ : ∃ V, V = w.alloc (.cells #[.slice none 0 0, .int .i64 0, .int .i64 0] 26) ∧ V.heap[w.heap.size]? = some (.cells #[.slice none 0 0, .int .i64 0, .int .i64 0] 26 (0, 0)) ∧ Below w.heap.size w V ∧ V.heap.size = w.heap.size + 1 := ⟨_, rfl, heap_alloc_new _ _, box_below _ _, by rw [World.size_alloc]⟩
  by_cases h8 : 8000 < s.length
  · have HV := hide (show parseP s = (zeroPol, 2) from if_pos h8)
    have h8' : (8000 : Int) < q.size := by omega
    clear HRD hps hbl hs
    go_enter Tryz.func19, Tryz.ntmps19
    go_wp2_with (refine wpList_store_row rfl 26 _ _ rfl w.heap.size #[.slice none 0 0, .int .i64 0, .int .i64 0] rfl rfl 26 _ (heap_alloc_new _ _) size_pol rfl (polC_one _ _ _ _ _) ?_)
    refine bodyPost_ret (v := .tuple #[.agg #[.slice none 0 0, .int .i64 0, .int .i64 0], .iface 75 (.int .i64 2)]) (results_pol rfl _ _ w.heap.size #[.slice none 0 0, .int .i64 0, .int .i64 0] _ rfl rfl rfl (setRow_heap _ _ _ _ _ _ (heap_alloc_new _ _))) rfl ⟨⟨none, 0, ?_, ?_⟩, below_setRow (box_below _ _) (Nat.le_refl _) _⟩
    · rw [HV.out]; rfl
    · rw [HV.out]; exact zeroPol_is _
  have h8' : ¬ (8000 : Int) < q.size := by omega
  have hpp : parseP s = match docP s with
    | some p => (p, 0)
    | none => (zeroPol, 4) := if_neg h8
  obtain ⟨p, hp⟩ : ∃ p, p = readP s := ⟨_, rfl⟩
  rw [← hp] at HRD hps
  have HE := hide (hE.on hV0b)
  have HPS := hide hps
  have HPP := hide hpp
  have HBL := hide hbl
  clear hps hpp hp hbl hE h8 hs hsz
  go_enter Tryz.func19, Tryz.ntmps19
  go_wp2_with fail
  rw [show w.alloc (Obj.cells #[.slice none 0 0, .int .i64 0, .int .i64 0] 26) = V0 from hV0.symm]
  refine (HRD _ HE.out).mono ?_
  rintro e X ⟨⟨oa, cap, rfl, hIP⟩, hX⟩
  clear hV0 HRD
  obtain ⟨Y, hY, hYb, _, hYc⟩ := one_box X #[.slice oa p.rules.length cap, .int .i64 p.els.kind, .int .i64 p.els.errno] 26
  have HT := ptext_any p oa cap Y (hIP.on hYb) ((HE.out.on hX).on hYb)
  have HIP := hide (hIP.on hYb)
  have HB := hide (below_next hX hYb)
  clear hIP hX hYb
  have y0 := hYc 0
  have y1 := hYc 1
  have y2 := hYc 2
  simp only [List.getElem?_toArray, List.getElem?_cons_zero, List.getElem?_cons_succ] at y0 y1 y2
  clear hYc
  unfold polV at HT ⊢
  obtain ⟨rn, hrn⟩ : ∃ n, n = p.rules.length := ⟨_, rfl⟩
  obtain ⟨pk, hpk⟩ : ∃ n, n = p.els.kind := ⟨_, rfl⟩
  obtain ⟨pe, hpe⟩ : ∃ n, n = p.els.errno := ⟨_, rfl⟩
  rw [← hrn, ← hpk, ← hpe] at HT hY
  rw [← hrn] at y0
  rw [← hpk] at y1
  rw [← hpe] at y2
  rw [← hrn, ← hpk, ← hpe]
  have HPV := hide (show (#[.slice oa rn cap, .int .i64 pk, .int .i64 pe] : Array Value) = #[.slice oa p.rules.length cap, .int .i64 p.els.kind, .int .i64 p.els.errno] by rw [hrn, hpk, hpe])
  clear hrn hpk hpe
  go_wp2_with fail
  rw [show X.alloc (.cells #[.slice oa rn cap, .int .i64 pk, .int .i64 pe] 26) = Y from hY.symm]
  refine HT.mono ?_
  rintro e Z ⟨rfl, hZ⟩
  have HZ := hide hZ
  have z0 := keep_cell hZ y0
  have z1 := keep_cell hZ y1
  have z2 := keep_cell hZ y2
  have hr1 : Z.heap[w.heap.size]? = some (.cells #[.slice none 0 0, .int .i64 0, .int .i64 0] 26 (0, 0)) := by
    have := below_next HB.out hZ
    rw [this.block w.heap.size (by omega)]
    exact hV0h
  have HBW := hide (below_next hV0b (below_next HB.out hZ))
  clear hZ hY HT y0 y1 y2 hV0h hV0b hV0s HE
  unfold ptextV
  by_cases hf : polF p = 0
  · rw [if_pos hf, hf, errV_zero]
    obtain ⟨T, hT⟩ : ∃ t, t = bs (textP p) := ⟨_, rfl⟩
    rw [← hT]
    have HTL := hide (show T.toList = textP p by rw [hT, bs_toList])
    clear hT
    by_cases ht : textP p = s
    · have HV := hide (show parseP s = (p, 0) by
        rw [HPP.out, ← HPS.out, if_pos ⟨hf, ht⟩])
      have hb : (T.toList == q.toList) = true := by rw [HTL.out, HBL.out, ht]; simp
      clear ht hf
      go_wp2_with (refine wpList_store_row rfl 26 _ _ rfl w.heap.size #[.slice oa rn cap, .int .i64 pk, .int .i64 pe] rfl rfl 26 _ hr1 size_pol rfl (polC_one _ _ _ _ _) ?_)
      refine bodyPost_ret (v := .tuple #[.agg #[.slice oa rn cap, .int .i64 pk, .int .i64 pe], .nilIface]) (results_pol rfl _ _ w.heap.size #[.slice oa rn cap, .int .i64 pk, .int .i64 pe] _ rfl rfl rfl (setRow_heap _ _ _ _ _ _ hr1)) rfl ⟨⟨oa, cap, ?_, ?_⟩, below_setRow HBW.out (Nat.le_refl _) _⟩
      · rw [HV.out, HPV.out]; rfl
      · rw [HV.out]; exact (HIP.out.on HZ.out).apart hr1 _
    · have HV := hide (show parseP s = (zeroPol, 4) by
        rw [HPP.out, ← HPS.out, if_neg (fun h => ht h.2)])
      have hb : (T.toList == q.toList) = false := by rw [HTL.out, HBL.out]; simpa using ht
      clear ht hf
      go_wp2_with (refine wpList_store_row rfl 26 _ _ rfl w.heap.size #[.slice none 0 0, .int .i64 0, .int .i64 0] rfl rfl 26 _ hr1 size_pol rfl (polC_one _ _ _ _ _) ?_)
      refine bodyPost_ret (v := .tuple #[.agg #[.slice none 0 0, .int .i64 0, .int .i64 0], .iface 75 (.int .i64 4)]) (results_pol rfl _ _ w.heap.size #[.slice none 0 0, .int .i64 0, .int .i64 0] _ rfl rfl rfl (setRow_heap _ _ _ _ _ _ hr1)) rfl ⟨⟨none, 0, ?_, ?_⟩, below_setRow HBW.out (Nat.le_refl _) _⟩
      · rw [HV.out]; rfl
      · rw [HV.out]; exact zeroPol_is _
  · rw [if_neg hf, errV_pos hf]
    have HV := hide (show parseP s = (zeroPol, 4) by
      rw [HPP.out, ← HPS.out, if_neg (fun h => hf h.1)])
    clear hf
    go_wp2_with (refine wpList_store_row rfl 26 _ _ rfl w.heap.size #[.slice none 0 0, .int .i64 0, .int .i64 0] rfl rfl 26 _ hr1 size_pol rfl (polC_one _ _ _ _ _) ?_)
    refine bodyPost_ret (v := .tuple #[.agg #[.slice none 0 0, .int .i64 0, .int .i64 0], .iface 75 (.int .i64 4)]) (results_pol rfl _ _ w.heap.size #[.slice none 0 0, .int .i64 0, .int .i64 0] _ rfl rfl rfl (setRow_heap _ _ _ _ _ _ hr1)) rfl ⟨⟨none, 0, ?_, ?_⟩, below_setRow HBW.out (Nat.le_refl _) _⟩
    · rw [HV.out]; rfl
    · rw [HV.out]; exact zeroPol_is _
end Go.Proofs.YtkogafponpjdnaaGreatDoor

/- Calls and values; what a rule asks of them. -/
namespace Go.Proofs.YtkogafponpjdnaaGreatDoor
open Go.RowKit Go.Sort

/-- A call. -/
structure KL where
  arch : Nat
  nr : Nat
  a0 : Nat
  a1 : Nat
  a2 : Nat
  a3 : Nat
structure KlOk (c : KL) : Prop where
  arch : c.arch < 4294967296
  nr : c.nr < 4294967296
  a0 : c.a0 < 18446744073709551616
  a1 : c.a1 < 18446744073709551616
  a2 : c.a2 < 18446744073709551616
  a3 : c.a3 < 18446744073709551616
def klC (c : KL) : Array Value := #[.int .u32 c.arch, .int .u32 c.nr, .int .u64 c.a0, .int .u64 c.a1, .int .u64 c.a2, .int .u64 c.a3]
def klV (c : KL) : Value := .agg (klC c)
def regN (c : KL) : Nat → Nat
  | 0 => c.a0
  | 1 => c.a1
  | 2 => c.a2
  | 3 => c.a3
  | _ => 0
theorem regN_lt {c : KL} (h : KlOk c) (i : Nat) : regN c i < 18446744073709551616 := by
  match i with
  | 0 => exact h.a0
  | 1 => exact h.a1
  | 2 => exact h.a2
  | 3 => exact h.a3
  | i + 4 => simp [regN]
theorem regN_at (c : KL) (i : Nat) (h : i ≤ 3) : (klC c)[2 + i]? = some (.int .u64 (regN c i : Nat)) := by
  rcases (by omega : i = 0 ∨ i = 1 ∨ i = 2 ∨ i = 3) with rfl | rfl | rfl | rfl <;> rfl
/-- Does a cond on a number hold? -/
def holdsN (c : CD) (x : Nat) : Bool :=
  if c.op = 1 then x == c.v else if c.op = 2 then x != c.v else if c.op = 3 then decide (x < c.v) else if c.op = 4 then decide (x ≤ c.v)
  else if c.op = 5 then decide (c.v < x) else if c.op = 6 then decide (c.v ≤ x) else (x &&& c.m) == c.v

set_option maxHeartbeats 2000000 in
theorem holds_any (c : CD) (hc : CdOk c) (x : Nat) (hx : x < 18446744073709551616) (w : World) : Calls Tryz.prog 45 #[condV c, .int .u64 x] w fun e w' => e = .returned (.bool (holdsN c x)) ∧ Below w.heap.size w w' := by
  obtain ⟨arg, op, v, m, g, ⟨ip, b, lo, hi⟩⟩ := c
  have hand : bits .and .u64 (x : Int) (m : Int) = ((x &&& m : Nat) : Int) := u64_and_nat x m hx hc.m
  clear hc
  obtain ⟨y, hy⟩ : ∃ y : Nat, y = x &&& m := ⟨_, rfl⟩
  rw [← hy] at hand
  have HY := hide hy
  clear hy
  unfold condV
  simp only
  go_enter Tryz.func45, Tryz.ntmps45
  go_wp2
  all_goals
    go_ret
    refine ⟨ret_bool ?_, box_below _ _⟩
  all_goals
    clear hand
    first
    | (simp_all [holdsN]; done)
    | (rw [Bool.eq_iff_iff]; simp_all [holdsN]; done)
    | (rw [Bool.eq_iff_iff]; simp_all [holdsN]; omega)
    | (have := HY.out; rw [Bool.eq_iff_iff]; simp_all [holdsN]; omega)
end Go.Proofs.YtkogafponpjdnaaGreatDoor

/- fits, isDeep, leads. -/
namespace Go.Proofs.YtkogafponpjdnaaGreatDoor
open Go.RowKit Go.Sort

def numB (c : CD) : Bool := kindOp c.op == 1
/-- Does a cond that is on a number hold, or is it on none? -/
def regB (k : KL) (c : CD) : Bool := !numB c || holdsN c (regN k c.arg.toNat)
def fitsB (r : RL) (k : KL) : Bool := decide ((k.nr : Int) = r.nr) && r.conds.all (regB k)
def deepB (r : RL) : Bool := r.conds.any fun c => !numB c

theorem rule_parts {r : RL} {oa : Option Addr} {w : World} (hc : IsConds oa r.conds w) (n : Nat) (hn : n = r.conds.length) : 0 < n → ∃ b off, oa = some ⟨b, off, none⟩ ∧ b < w.heap.size ∧ Hid (∀ i c, r.conds[i]? = some c → CondAt w b (off + i * 9) c) := conds_parts hc n hn
theorem all_take_snoc {α : Type} {f : α → Bool} {l : List α} {i : Nat} {c : α} (h : l.take (i + 1) = l.take i ++ [c]) (h0 : (l.take i).all f = true) : (l.take (i + 1)).all f = f c := by rw [h, List.all_append, h0]; simp
theorem all_take_false {α : Type} {f : α → Bool} {l : List α} {i : Nat} (h : (l.take i).all f = false) : l.all f = false := by
  rw [← List.take_append_drop i l, List.all_append, h, Bool.false_and]

set_option maxHeartbeats 4000000 in
theorem isDeep_any (r : RL) (hf : r.conds.length ≤ 4) (oa : Option Addr) (cap : Nat) (w : World) (hc : IsConds oa r.conds w) :
    Calls Tryz.prog 25 #[ruleV r oa cap] w fun e w' => e = .returned (.bool (deepB r)) ∧ Below w.heap.size w w' := by
  obtain ⟨n, hn⟩ : ∃ n, n = r.conds.length := ⟨_, rfl⟩
  have HC := hide (conds_parts hc n hn)
  have h4 : n ≤ 4 := by omega
  have HL := hide (show ∀ i, i < n → ∃ c, r.conds[i]? = some c ∧ r.conds.take (i + 1) = r.conds.take i ++ [c] from fun i h => take_next (by omega))
  have HD := hide (show deepB r = !(r.conds.all numB) by unfold deepB; rw [List.any_eq_not_all_not]; simp)
  obtain ⟨z, hz⟩ : ∃ z, z = deepB r := ⟨_, rfl⟩
  rw [← hz] at HD ⊢
  clear hc hf hz
  obtain ⟨nr, cs, ⟨ak, ae⟩⟩ := r
  unfold ruleV
  simp only at HC HL HD hn ⊢
  rw [← hn]
  have HN := hide hn
  clear hn
  go_enter Tryz.func25, Tryz.ntmps25
  go_wp2
  obtain ⟨V, hV, hB, hsz, hx⟩ := one_box w #[.int .i64 nr, .slice oa n cap, .int .i64 ak, .int .i64 ae] 65
  rw [← hV]
  clear hV
  have k1 := hx 1
  go_loopw [7] (fun I w' => ∃ i : Nat, i ≤ n ∧ I = .int .i64 i ∧ Hid ((cs.take i).all numB = true) ∧ w' = V) (fun I _ => n - (intOf I).toNat)
  case atStart => exact ⟨0, by omega, rfl, hide rfl, rfl⟩
  case round =>
    obtain ⟨i, hi, rfl, HG, rfl⟩ := hrel
    by_cases hlt : i < n
    · obtain ⟨c, hcs, hcat⟩ := HL.out i hlt
      obtain ⟨b, off, rfl, hbw, HA⟩ := HC.out (by omega)
      have hA := (HA.out i c hcs).on fun j => (bcell hB).1 b j hbw
      have c1 := hA.k1
      have HQ := hide (all_take_snoc (f := numB) hcat HG.out)
      have HK := fun w => kindOf_any c.op w
      obtain ⟨ko, hko⟩ : ∃ k : Int, k = (kindOp c.op : Nat) := ⟨_, rfl⟩
      rw [← hko] at HK
      have hnb : numB c = (ko == 1) := by unfold numB; rw [hko, Bool.eq_iff_iff]; simp; omega
      rw [hnb] at HQ
      clear hko hnb hcs hcat hA hx
      obtain ⟨op, hop⟩ : ∃ o, o = c.op := ⟨_, rfl⟩
      rw [← hop] at HK c1
      clear hop
      cases hkb : (ko == 1) with
      | true =>
        rw [hkb] at HQ
        have hk1 : ko = 1 := by simpa using hkb
        subst hk1
        go_wp2_with (go_at_call 44; refine (HK _).mono ?_; rintro e w' ⟨rfl, rfl⟩)
        go_round
        case rel => exact ⟨i + 1, by omega, by go_num, HQ, trivial⟩
        case measure => simp [intOf]; omega
      | false =>
        rw [hkb] at HQ
        have hk1 : ¬ ko = 1 := by simpa using hkb
        have HZ := hide (show z = true by rw [HD.out, all_take_false HQ.out]; rfl)
        clear hkb
        go_wp2_with (go_at_call 44; refine (HK _).mono ?_; rintro e w' ⟨rfl, rfl⟩)
        go_ret
        exact ⟨ret_bool HZ.out.symm, hB⟩
    · obtain rfl : i = n := by omega
      have HZ := hide (show z = false by
        have := HG.out
        rw [List.take_of_length_le (by rw [HN.out]; exact Nat.le_refl _)] at this
        rw [HD.out, this]; rfl)
      go_wp2
      go_ret
      exact ⟨ret_bool HZ.out.symm, hB⟩

theorem shape_arg {c : CD} (h : Shape c) : ∃ a : Nat, c.arg = a ∧ a ≤ 3 := by
  cases h with
  | num a k v ha h1 h6 hv => exact ⟨a, rfl, ha⟩
  | mask a v m ha hv hm => exact ⟨a, rfl, ha⟩
  | like a g ha hg => exact ⟨a, rfl, ha⟩
  | net a ip b lo hi ha hip hf => exact ⟨a, rfl, ha⟩
set_option maxHeartbeats 4000000 in
theorem fits_any (r : RL) (h : RuleOk r) (oa : Option Addr) (cap : Nat) (k : KL) (hk : KlOk k) (w : World) (hc : IsConds oa r.conds w) :
    Calls Tryz.prog 24 #[ruleV r oa cap, klV k] w fun e w' => e = .returned (.bool (fitsB r k)) ∧ Below w.heap.size w w' := by
  obtain ⟨n, hn⟩ : ∃ n, n = r.conds.length := ⟨_, rfl⟩
  have HC := hide (conds_parts hc n hn)
  have h4 : n ≤ 4 := by have := h.few; omega
  have HSH := hide h.conds
  have HL := hide (show ∀ i, i < n → ∃ c, r.conds[i]? = some c ∧ r.conds.take (i + 1) = r.conds.take i ++ [c] from fun i h => take_next (by omega))
  obtain ⟨m, hm⟩ : ∃ m : Nat, r.nr = m := ⟨r.nr.toNat, by have := h.nr0; omega⟩
  have hm8 : m ≤ 8 := by have := h.nr8; omega
  have HZ := hide (show fitsB r k = (decide ((k.nr : Int) = r.nr) && r.conds.all (regB k)) from rfl)
  obtain ⟨z, hz⟩ : ∃ z, z = fitsB r k := ⟨_, rfl⟩
  rw [← hz] at HZ ⊢
  clear hc hz h
  obtain ⟨nr, cs, ⟨ak, ae⟩⟩ := r
  unfold ruleV klV klC
  simp only at HC HL HZ HSH hn hm ⊢
  subst hm
  rw [← hn]
  have HN := hide hn
  clear hn
  have hwr : IntKind.u32.wrap (m : Int) = m := by rw [IntKind.wrap_u32]; omega
  by_cases hne : k.nr = m
  · have HZ2 := hide (show z = cs.all (regB k) by rw [HZ.out, hne]; simp)
    have hnn : (k.nr : Int) = m := by omega
    clear HZ
    obtain ⟨V, hV, hB, hx, hy⟩ := two_box w #[.int .i64 m, .slice oa n cap, .int .i64 ak, .int .i64 ae] (klC k) 65 31
    have HY := hide hy
    have k1 := hx 1
    have kn := hy 1
    have kn2 : V.cell? ⟨w.heap.size + 1, 1, none⟩ = some (.int .u32 m) := by rw [kn]; show some (Value.int .u32 (k.nr : Int)) = _; rw [hnn]
    clear kn hy
    unfold klC at hV
    rw [hnn] at hV ⊢
    have HREG := hide (regN_at k)
    have HKO := hide (fun i => regN_lt hk i)
    obtain ⟨kar, hkar⟩ : ∃ x, x = k.arch := ⟨_, rfl⟩
    obtain ⟨kb0, hkb0⟩ : ∃ x, x = k.a0 := ⟨_, rfl⟩
    obtain ⟨kb1, hkb1⟩ : ∃ x, x = k.a1 := ⟨_, rfl⟩
    obtain ⟨kb2, hkb2⟩ : ∃ x, x = k.a2 := ⟨_, rfl⟩
    obtain ⟨kb3, hkb3⟩ : ∃ x, x = k.a3 := ⟨_, rfl⟩
    rw [← hkar, ← hkb0, ← hkb1, ← hkb2, ← hkb3] at hV ⊢
    clear hkar hkb0 hkb1 hkb2 hkb3 hk hne hnn
    go_enter Tryz.func24, Tryz.ntmps24
    go_wp2
    rw [← hV]
    clear hV
    go_loopw [16] (fun I w' => ∃ i : Nat, i ≤ n ∧ I = .int .i64 i ∧ Hid ((cs.take i).all (regB k) = true) ∧ Hid (Below V.heap.size V w')) (fun I _ => n - (intOf I).toNat)
    case atStart => exact ⟨0, by omega, rfl, hide rfl, hide (Below.refl _ _)⟩
    case round =>
      obtain ⟨i, hi, rfl, HG, HB⟩ := hrel
      have HW := hide (below_next hB HB.out)
      by_cases hlt : i < n
      · obtain ⟨c, hcs, hcat⟩ := HL.out i hlt
        obtain ⟨b, off, rfl, hbw, HA⟩ := HC.out (by omega)
        have hA := (HA.out i c hcs).on fun j => (bcell HW.out).1 b j hbw
        have HQ := hide (all_take_snoc (f := regB k) hcat HG.out)
        have hok := hA.ok
        obtain ⟨a, haa, ha3⟩ := shape_arg (HSH.out c (List.mem_of_getElem? hcs))
        obtain ⟨x, hxx⟩ : ∃ x, x = regN k a := ⟨_, rfl⟩
        have hxl : x < 18446744073709551616 := by rw [hxx]; exact HKO.out a
        have kreg := (HY.out (2 + a)).trans (HREG.out a ha3)
        rw [← hxx] at kreg
        have HH := fun w => holds_any c hok x hxl w
        have HRB := hide (show regB k c = (!numB c || holdsN c x) by unfold regB; rw [haa, Int.toNat_natCast, hxx])
        obtain ⟨hl, hhl⟩ : ∃ z, z = holdsN c x := ⟨_, rfl⟩
        rw [← hhl] at HH HRB
        have HK := fun w => kindOf_any c.op w
        obtain ⟨ko, hko⟩ : ∃ k : Int, k = (kindOp c.op : Nat) := ⟨_, rfl⟩
        rw [← hko] at HK
        have hnb : numB c = (ko == 1) := by unfold numB; rw [hko, Bool.eq_iff_iff]; simp; omega
        rw [hnb] at HRB
        rw [HRB.out] at HQ
        obtain ⟨p0, p1, p2, p3, p4, p5, p6, p7, p8, _⟩ := hA
        clear hko hnb hcs hcat hxx hxl hhl hok HRB
        obtain ⟨arg, op, v, mm, gl, ⟨ip, bb, lo, hh⟩⟩ := c
        unfold condV at HH
        simp only at p0 p1 p2 p3 p4 p5 p6 p7 p8 HH HK haa
        subst haa
        have g1 := keep_cell HB.out k1
        have i1 : (0 : Int) ≤ a := by omega
        have i2 : (a : Int) < 4 := by omega
        go_wp2
        obtain ⟨W1, hW1, hW1b, _, hW1c⟩ := one_box wr #[.int .i64 a, .int .i64 op, .int .u64 v, .int .u64 mm, .string gl, .int .u32 ip, .int .i64 bb, .int .i64 lo, .int .i64 hh] 69
        rw [← hW1]
        clear hW1
        have g0 := cell_regrown (hW1c 0)
        have g1' := cell_regrown (hW1c 1)
        have g2 := cell_regrown (hW1c 2)
        have g3 := cell_regrown (hW1c 3)
        have g4 := cell_regrown (hW1c 4)
        have g5 := cell_regrown (hW1c 5)
        have g6 := cell_regrown (hW1c 6)
        have g7 := cell_regrown (hW1c 7)
        have g8 := cell_regrown (hW1c 8)
        have gr := cell_regrown (keep_cell (below_next HB.out hW1b) kreg)
        have cK : ∀ d os, Calls Tryz.prog 44 #[.int .i64 op] (grow (redrawn W1 d) os) fun e w'' => e = .returned (.int .i64 ko) ∧ ∃ p : Regrown, w'' = grow (redrawn W1 p.d) p.os := fun d os => regrown_same (HK _)
        have cH : ∀ d os, Calls Tryz.prog 45 #[.agg #[.int .i64 a, .int .i64 op, .int .u64 v, .int .u64 mm, .string gl, .int .u32 ip, .int .i64 bb, .int .i64 lo, .int .i64 hh], .int .u64 x] (grow (redrawn W1 d) os) fun e w'' => e = .returned (.bool hl) ∧ ∃ p : Regrown, w'' = grow (redrawn W1 p.d) p.os := fun d os => Calls.regrown_of (HH _)
        clear hW1c p0 p1 p2 p3 p4 p5 p6 p7 p8 HH HK kreg
        cases hkb : (ko == 1) with
        | false =>
          rw [hkb] at HQ
          refine wp_region_quiet_below (by kernel_rfl) (by kernel_rfl) ?_
          repeat (go_big_quiet_step (first | (go_at_call 44; exact cK _ _) | (go_at_call 45; exact cH _ _)))
          refine wpQuiet_nil ?_
          intro _ hw'
          obtain ⟨⟨dq, osq⟩, hw''⟩ := hw'
          subst hw''
          go_wp2
          go_round
          case rel => exact ⟨i + 1, by omega, by go_num, HQ, hide (below_next (below_next HB.out hW1b) (below_regrown _ _ _))⟩
          case measure => simp [intOf]; omega
        | true =>
          rw [hkb] at HQ
          cases hl with
          | true =>
            refine wp_region_quiet_below (by kernel_rfl) (by kernel_rfl) ?_
            repeat (go_big_quiet_step (first | (go_at_call 44; exact cK _ _) | (go_at_call 45; exact cH _ _)))
            refine wpQuiet_nil ?_
            intro _ hw'
            obtain ⟨⟨dq, osq⟩, hw''⟩ := hw'
            subst hw''
            go_wp2
            go_round
            case rel => exact ⟨i + 1, by omega, by go_num, HQ, hide (below_next (below_next HB.out hW1b) (below_regrown _ _ _))⟩
            case measure => simp [intOf]; omega
          | false =>
            have HF := hide (show z = false by rw [HZ2.out]; exact all_take_false HQ.out)
            refine wp_region_quiet_below (by kernel_rfl) (by kernel_rfl) ?_
            repeat (go_big_quiet_step (first | (go_at_call 44; exact cK _ _) | (go_at_call 45; exact cH _ _)))
            refine wpQuiet_nil ?_
            intro _ hw'
            obtain ⟨⟨dq, osq⟩, hw''⟩ := hw'
            subst hw''
            go_wp2
            go_ret
            exact ⟨ret_bool HF.out.symm, below_next (below_next HW.out hW1b) (below_regrown _ _ _)⟩
      · obtain rfl : i = n := by omega
        have HF := hide (show z = true by
          have := HG.out
          rw [List.take_of_length_le (by rw [HN.out]; exact Nat.le_refl _)] at this
          rw [HZ2.out, this])
        go_wp2
        go_ret
        exact ⟨ret_bool HF.out.symm, HW.out⟩
  · have HF := hide (show z = false by
      rw [HZ.out, decide_eq_false (by omega), Bool.false_and])
    have hn1 : ¬ (k.nr : Int) = m := by omega
    clear hne HZ
    go_enter Tryz.func24, Tryz.ntmps24
    go_wp2
    go_ret
    exact ⟨ret_bool HF.out.symm, below_next (box_below _ _) (box_below _ _)⟩
end Go.Proofs.YtkogafponpjdnaaGreatDoor

/- leads. -/
namespace Go.Proofs.YtkogafponpjdnaaGreatDoor
open Go.RowKit Go.Sort

/-- A value that a pointer leads to. -/
structure VL where
  path : ByteArray
  ip : Nat
  port : Int
structure VlOk (v : VL) : Prop where
  path : v.path.size ≤ 1000
  ip : v.ip < 4294967296
  port : I64 v.port
/-- The values of a call. -/
structure VS where
  v0 : VL
  v1 : VL
  v2 : VL
  v3 : VL
def VS.at (v : VS) : Nat → VL
  | 0 => v.v0
  | 1 => v.v1
  | 2 => v.v2
  | _ => v.v3
structure VsOk (v : VS) : Prop where
  v0 : VlOk v.v0
  v1 : VlOk v.v1
  v2 : VlOk v.v2
  v3 : VlOk v.v3
theorem VsOk.at {v : VS} (h : VsOk v) (i : Nat) : VlOk (v.at i) := by
  match i with
  | 0 => exact h.v0
  | 1 => exact h.v1
  | 2 => exact h.v2
  | i + 3 => exact h.v3
def vsC (v : VS) : Array Value := #[.string v.v0.path, .int .u32 v.v0.ip, .int .i64 v.v0.port, .string v.v1.path, .int .u32 v.v1.ip, .int .i64 v.v1.port, .string v.v2.path, .int .u32 v.v2.ip, .int .i64 v.v2.port, .string v.v3.path, .int .u32 v.v3.ip, .int .i64 v.v3.port]
def vsV (v : VS) : Value := .agg (vsC v)
theorem vsC_at (v : VS) (i : Nat) (h : i ≤ 3) : (vsC v)[i * 3]? = some (.string (v.at i).path) ∧ (vsC v)[i * 3 + 1]? = some (.int .u32 (v.at i).ip) ∧ (vsC v)[i * 3 + 2]? = some (.int .i64 (v.at i).port) := by
  rcases (by omega : i = 0 ∨ i = 1 ∨ i = 2 ∨ i = 3) with rfl | rfl | rfl | rfl <;> exact ⟨rfl, rfl, rfl⟩
def netHas (n : NT) (y : VL) : Bool := hasOf n.ip n.bits n.lo n.hi y.ip y.port
/-- Does a cond on what a pointer leads to hold, or is it on none? -/
def leadB (v : VS) (c : CD) : Bool := if c.op = 8 then Gl.matchR c.glob (v.at c.arg.toNat).path else if c.op = 9 then netHas c.net (v.at c.arg.toNat) else true
def leadsB (r : RL) (v : VS) : Bool := r.conds.all (leadB v)

set_option maxHeartbeats 4000000 in
set_option maxRecDepth 100000 in
theorem leads_any (r : RL) (h : RuleOk r) (oa : Option Addr) (cap : Nat) (v : VS) (hv : VsOk v) (w : World) (hc : IsConds oa r.conds w) :
    Calls Tryz.prog 26 #[ruleV r oa cap, vsV v] w fun e w' => e = .returned (.bool (leadsB r v)) ∧ Below w.heap.size w w' := by
  obtain ⟨n, hn⟩ : ∃ n, n = r.conds.length := ⟨_, rfl⟩
  have HC := hide (conds_parts hc n hn)
  have h4 : n ≤ 4 := by have := h.few; omega
  have HSH := hide h.conds
  have HL := hide (show ∀ i, i < n → ∃ c, r.conds[i]? = some c ∧ r.conds.take (i + 1) = r.conds.take i ++ [c] from fun i h => take_next (by omega))
  have HZ := hide (show leadsB r v = r.conds.all (leadB v) from rfl)
  obtain ⟨z, hz⟩ : ∃ z, z = leadsB r v := ⟨_, rfl⟩
  rw [← hz] at HZ ⊢
  clear hc hz h
  obtain ⟨nr, cs, ⟨ak, ae⟩⟩ := r
  obtain ⟨vc, hvc⟩ : ∃ c, c = vsC v := ⟨_, rfl⟩
  have hvs : vc.size = 12 := by rw [hvc]; rfl
  unfold ruleV vsV
  simp only at HC HL HZ HSH hn ⊢
  rw [← hn, ← hvc]
  have HN := hide hn
  have HVC := hide hvc
  clear hn hvc
  obtain ⟨V, hV, hB, hx, hy⟩ := two_box w #[.int .i64 nr, .slice oa n cap, .int .i64 ak, .int .i64 ae] vc 65 35
  have HY := hide hy
  have k1 := hx 1
  clear hy
  go_enter Tryz.func26, Tryz.ntmps26
  go_wp2
  rw [← hV]
  clear hV
  go_loopw [11] (fun I w' => ∃ i : Nat, i ≤ n ∧ I = .int .i64 i ∧ Hid ((cs.take i).all (leadB v) = true) ∧ Hid (Below V.heap.size V w')) (fun I _ => n - (intOf I).toNat)
  case atStart => exact ⟨0, by omega, rfl, hide rfl, hide (Below.refl _ _)⟩
  case round =>
    obtain ⟨i, hi, rfl, HG, HB⟩ := hrel
    have HW := hide (below_next hB HB.out)
    by_cases hlt : i < n
    · obtain ⟨c, hcs, hcat⟩ := HL.out i hlt
      obtain ⟨b, off, rfl, hbw, HA⟩ := HC.out (by omega)
      have hA := (HA.out i c hcs).on fun j => (bcell HW.out).1 b j hbw
      have HQ := hide (all_take_snoc (f := leadB v) hcat HG.out)
      have hok := hA.ok
      have hsh := HSH.out c (List.mem_of_getElem? hcs)
      obtain ⟨a, haa, ha3⟩ := shape_arg hsh
      obtain ⟨y, hyy⟩ : ∃ y, y = v.at a := ⟨_, rfl⟩
      have hyo : VlOk y := by rw [hyy]; exact hv.at a
      have hya := vsC_at v a ha3
      rw [← HVC.out, ← hyy] at hya
      have q0 := keep_cell HB.out ((HY.out (a * 3)).trans hya.1)
      have q1 := keep_cell HB.out ((HY.out (a * 3 + 1)).trans hya.2.1)
      have q2 := keep_cell HB.out ((HY.out (a * 3 + 2)).trans hya.2.2)
      have lw : w.heap.size + 1 < wr.heap.size := block_lt_of_cell q0
      have g1 := keep_cell HB.out k1
      have HM := fun (hg : c.glob.size ≤ 24) w => Gl.match_any c.glob y.path (by omega) hyo.path w
      have HH := fun w => has_any c.net.ip hok.net.ip c.net.bits c.net.lo c.net.hi hok.net.bits hok.net.lo hok.net.hi y.ip hyo.ip y.port w
      have hlb : leadB v c = if c.op = 8 then Gl.matchR c.glob y.path else if c.op = 9 then netHas c.net y else true := by unfold leadB; rw [haa, Int.toNat_natCast, hyy]
      rw [hlb] at HQ
      have hgl : c.op = 8 → c.glob.size ≤ 24 := fun h8 => by
        cases hsh with
        | num a k v ha h1 h6 hv => simp only at h8; omega
        | mask a v m ha hv hm => simp only at h8; omega
        | like a g ha hg => exact (glob_print hg).2
        | net a ip b lo hi ha hip hf => simp only at h8; omega
      obtain ⟨p0, p1, p2, p3, p4, p5, p6, p7, p8, _⟩ := hA
      clear hsh hya hyy hyo hok hcs hcat hlb
      obtain ⟨yp, yi, yo⟩ := y
      obtain ⟨arg, op, vv, mm, gl, ⟨ip, bb, lo, hh⟩⟩ := c
      simp only at p0 p1 p2 p3 p4 p5 p6 p7 p8 HH HM haa hgl HQ q0 q1 q2
      unfold netHas at HQ
      simp only at HQ
      subst haa
      have i1 : (0 : Int) ≤ a := by omega
      have i2 : (a : Int) < 4 := by omega
      by_cases h8 : op = 8
      · subst h8
        replace HM := HM (hgl rfl)
        rw [if_pos rfl] at HQ
        obtain ⟨mr, hmr⟩ : ∃ m, m = Gl.matchR gl yp := ⟨_, rfl⟩
        rw [← hmr] at HQ HM
        clear hmr hgl HH
        cases mr with
        | true =>
          go_wp2_with (go_at_call 46; refine (HM _).mono ?_; rintro e w1 ⟨rfl, hb1⟩)
          go_round
          case rel => exact ⟨i + 1, by omega, by go_num, HQ, hide (below_next (below_next HB.out (below_next (box_below _ _) (box_below _ _))) hb1)⟩
          case measure => simp [intOf]; omega
        | false =>
          have HF := hide (show z = false by rw [HZ.out]; exact all_take_false HQ.out)
          go_wp2_with (go_at_call 46; refine (HM _).mono ?_; rintro e w1 ⟨rfl, hb1⟩)
          go_ret
          exact ⟨ret_bool HF.out.symm, below_next (below_next HW.out (below_next (box_below _ _) (box_below _ _))) hb1⟩
      · rw [if_neg h8] at HQ
        by_cases h9 : op = 9
        · subst h9
          rw [if_pos rfl] at HQ
          obtain ⟨mr, hmr⟩ : ∃ m, m = hasOf ip bb lo hh yi yo := ⟨_, rfl⟩
          rw [← hmr] at HQ HH
          clear hmr hgl HM
          cases mr with
          | true =>
            go_wp2_with (go_at_call 47; refine (HH _).mono ?_; rintro e w1 ⟨rfl, hb1⟩)
            go_round
            case rel => exact ⟨i + 1, by omega, by go_num, HQ, hide (below_next (below_next HB.out (below_next (box_below _ _) (box_below _ _))) hb1)⟩
            case measure => simp [intOf]; omega
          | false =>
            have HF := hide (show z = false by rw [HZ.out]; exact all_take_false HQ.out)
            go_wp2_with (go_at_call 47; refine (HH _).mono ?_; rintro e w1 ⟨rfl, hb1⟩)
            go_ret
            exact ⟨ret_bool HF.out.symm, below_next (below_next HW.out (below_next (box_below _ _) (box_below _ _))) hb1⟩
        · rw [if_neg h9] at HQ
          clear HM HH hgl
          go_wp2
          go_round
          case rel => exact ⟨i + 1, by omega, by go_num, HQ, hide (below_next HB.out (below_next (box_below _ _) (box_below _ _)))⟩
          case measure => simp [intOf]; omega
    · obtain rfl : i = n := by omega
      have HF := hide (show z = true by
        have := HG.out
        rw [List.take_of_length_le (by rw [HN.out]; exact Nat.le_refl _)] at this
        rw [HZ.out, this])
      go_wp2
      go_ret
      exact ⟨ret_bool HF.out.symm, HW.out⟩
end Go.Proofs.YtkogafponpjdnaaGreatDoor

/- policy.Judge. -/
namespace Go.Proofs.YtkogafponpjdnaaGreatDoor
open Go.RowKit Go.Sort

def judgeFrom (k : KL) (els : ACT) : List RL → Nat → ACT × Nat
  | [], _ => (els, 0)
  | r :: t, i => if fitsB r k then (if deepB r then (⟨4, 0⟩, i) else (r.act, 0)) else judgeFrom k els t (i + 1)
def judgeR (p : POL) (k : KL) : ACT × Nat := if k.arch = 3221225534 then judgeFrom k p.els p.rules 0 else (⟨3, 0⟩, 0)
def decideFrom (k : KL) (v : VS) (els : ACT) : List RL → ACT
  | [] => els
  | r :: t => if fitsB r k && leadsB r v then r.act else decideFrom k v els t
def decideR (p : POL) (k : KL) (v : VS) : ACT := if k.arch = 3221225534 then decideFrom k v p.els p.rules else ⟨3, 0⟩
def verC (a : ACT) (i : Nat) : Array Value := #[.int .i64 a.kind, .int .i64 a.errno, .int .i64 i]
def verV (x : ACT × Nat) : Value := .agg (verC x.1 x.2)
/-- What Judge hands back. -/
def judgeV (p : POL) (k : KL) : Value := .tuple #[if polF p = 0 then verV (judgeR p k) else verV (⟨0, 0⟩, 0), errV (polF p)]
def decideV (p : POL) (k : KL) (v : VS) : Value := .tuple #[if polF p = 0 then actV (decideR p k v) else actV ⟨0, 0⟩, errV (polF p)]
theorem size_ver : (Tryz.prog.info? 46).map (·.size) = some 3 := by kernel_rfl
theorem verC_one (a : ACT) (i : Nat) : (verC a i).all (·.oneCell') = true := by simp [verC, Value.oneCell']
theorem results_ver {fn : Func} {p u : Tmp} (h : fn.results = #[.cell p 46, .tmp u]) (tmps : Array Value) (w : World) (g : Nat) (cs : Array Value) (v : Value) (hs : cs.size = 3)
    (hp : tmps.getD p undef = .pointer (some ⟨g, 0, none⟩)) (hv : tmps.getD u undef = v) (hg : w.heap[g]? = some (.cells cs 46 (0, 0))) :
    (results fn tmps).run Tryz.prog w = .ok (.tuple #[.agg cs, v]) w := by
  rw [results_cell_tmp h, hp, hv]
  have hl := run_loadVar_row (P := Tryz.prog) w g 46 46 cs (0, 0) _ hg Tryz.underlying46 rfl (by rw [hs]; exact size_ver)
  simp [asAddr, hl]
theorem results_act {fn : Func} {p u : Tmp} (h : fn.results = #[.cell p 24, .tmp u]) (tmps : Array Value) (w : World) (g : Nat) (cs : Array Value) (v : Value) (hs : cs.size = 2)
    (hp : tmps.getD p undef = .pointer (some ⟨g, 0, none⟩)) (hv : tmps.getD u undef = v) (hg : w.heap[g]? = some (.cells cs 24 (0, 0))) :
    (results fn tmps).run Tryz.prog w = .ok (.tuple #[.agg cs, v]) w := by
  rw [results_cell_tmp h, hp, hv]
  have hl := run_loadVar_row (P := Tryz.prog) w g 24 24 cs (0, 0) _ hg Tryz.underlying24 rfl (by rw [hs]; exact size_action)
  simp [asAddr, hl]
theorem three_box (w : World) (x y z : Array Value) (tx ty tz : TypeId) : ∃ V, V = ((w.alloc (.cells x tx)).alloc (.cells y ty)).alloc (.cells z tz) ∧ Below w.heap.size w V ∧ V.heap.size = w.heap.size + 3 ∧ (∀ j : Nat, V.cell? ⟨w.heap.size, j, none⟩ = x[j]?) ∧ (∀ j : Nat, V.cell? ⟨w.heap.size + 1, j, none⟩ = y[j]?) ∧ V.heap[w.heap.size + 2]? = some (.cells z tz (0, 0)) := by
  obtain ⟨U, hU, hb, h1, h2⟩ := two_box w x y tx ty
  have hs : U.heap.size = w.heap.size + 2 := by rw [hU, World.size_alloc, World.size_alloc]
  refine ⟨U.alloc (.cells z tz), by rw [hU], below_next hb (box_below _ _), by rw [World.size_alloc, hs], fun j => ?_, fun j => ?_, ?_⟩
  · rw [← h1 j]; exact (bcell (box_below U _)).1 _ j (by omega)
  · rw [← h2 j]; exact (bcell (box_below U _)).1 _ j (by omega)
  · rw [← hs]; exact heap_alloc_new _ _

theorem drop_next {α : Type} {cs : List α} {i : Nat} (h : i < cs.length) : ∃ c, cs[i]? = some c ∧ cs.drop i = c :: cs.drop (i + 1) :=
  ⟨cs[i], List.getElem?_eq_getElem h, (List.getElem_cons_drop h).symm⟩

set_option maxHeartbeats 1000000 in
set_option maxRecDepth 100000 in
theorem judge_any (p : POL) (oa : Option Addr) (cap : Nat) (k : KL) (hk : KlOk k) (w : World) (hp : IsPol oa cap p w) :
    Calls Tryz.prog 11 #[polV p oa cap, klV k] w fun e w' => e = .returned (judgeV p k) ∧ Below w.heap.size w w' := by
  obtain ⟨n, hn⟩ : ∃ n, n = p.rules.length := ⟨_, rfl⟩
  obtain ⟨V, hV, hB, hVs, hx, hy, hz⟩ := three_box w #[.slice oa p.rules.length cap, .int .i64 p.els.kind, .int .i64 p.els.errno] (klC k) #[.int .i64 0, .int .i64 0, .int .i64 0] 26 31 46
  have HCK := pcheck_any p oa cap V (hp.on hB)
  have HC := hide (pol_parts hp n hn)
  have hmax : n ≤ 9223372036854775807 := by have h1 := hp.le; have h2 := hp.cap; unfold maxLen at h2; omega
  have hpk := hp.ok
  clear hp
  unfold klC at hV hy
  by_cases hf : polF p = 0
  · have hok := pol_ok hf hpk
    have HV := hide (show judgeV p k = .tuple #[verV (judgeR p k), .nilIface] by unfold judgeV; rw [if_pos hf, hf]; rfl)
    rw [hf, errV_zero] at HCK
    have HRU := hide hok.rules
    have h12 : n ≤ 12 := by have := hok.few; omega
    have HFT := fun r hr oa cap X hc => fits_any r hr oa cap k hk X hc
    have HKL := hide hk
    clear hf hpk hok hk
    obtain ⟨rs, ⟨ak, ae⟩⟩ := p
    have HL := hide (show ∀ i, i < n → ∃ c, rs[i]? = some c ∧ rs.drop i = c :: rs.drop (i + 1) from fun i h => drop_next (by simp only at hn; omega))
    unfold polV klV klC at *
    simp only at *
    rw [← hn] at hV hx HCK ⊢
    have HN := hide hn
    clear hn
    obtain ⟨kar, kn, b0, b1, b2, b3⟩ := k
    simp only at *
    have x0 := hx 0
    have x1 := hx 1
    have x2 := hx 2
    have y0 := hy 0
    have y1 := hy 1
    have y2 := hy 2
    have y3 := hy 3
    have y4 := hy 4
    have y5 := hy 5
    simp only [List.getElem?_toArray, List.getElem?_cons_zero, List.getElem?_cons_succ] at x0 x1 x2 y0 y1 y2 y3 y4 y5
    clear hx hy
    by_cases ha : kar = 3221225534
    · have HJ := hide (show judgeR ⟨rs, ⟨ak, ae⟩⟩ ⟨kar, kn, b0, b1, b2, b3⟩ = judgeFrom ⟨kar, kn, b0, b1, b2, b3⟩ ⟨ak, ae⟩ rs 0 from if_pos ha)
      have ha' : (kar : Int) = 3221225534 := by omega
      rw [ha'] at hV y0 ⊢
      have HKA := hide ha'
      clear ha ha'
      go_enter Tryz.func11, Tryz.ntmps11
      go_wp2_with (go_at_call 14; rw [← hV]; clear hV; refine HCK.mono ?_; rintro e X ⟨rfl, hX⟩; have X0 := keep_cell hX x0; have X1 := keep_cell hX x1; have X2 := keep_cell hX x2; have Y0 := keep_cell hX y0; have Y1 := keep_cell hX y1; have Y2 := keep_cell hX y2; have Y3 := keep_cell hX y3; have Y4 := keep_cell hX y4; have Y5 := keep_cell hX y5)
      go_loopw [23] (fun I w' => ∃ i : Nat, i ≤ n ∧ I = .int .i64 i ∧ Hid (judgeFrom ⟨kar, kn, b0, b1, b2, b3⟩ ⟨ak, ae⟩ rs 0 = judgeFrom ⟨kar, kn, b0, b1, b2, b3⟩ ⟨ak, ae⟩ (rs.drop i) i) ∧ Hid (Below X.heap.size X w')) (fun I _ => n - (intOf I).toNat)
      case atStart => exact ⟨0, by omega, rfl, hide rfl, hide (Below.refl _ _)⟩
      case round =>
        obtain ⟨i, hi, rfl, HG, HB⟩ := hrel
        have HW := hide (below_next (below_next hB hX) HB.out)
        have HVW := hide (below_next hX HB.out)
        have hsw : w.heap.size + 2 < V.heap.size := by omega
        by_cases hlt : i < n
        · obtain ⟨c, hcs, hdr⟩ := HL.out i hlt
          obtain ⟨b, off, rfl, hbw, HA⟩ := HC.out (by omega)
          obtain ⟨ca, cc, hR0⟩ := HA.out i c hcs
          have hR := hR0.on hbw HW.out
          clear hR0
          have hro := HRU.out c (List.mem_of_getElem? hcs)
          have HF1 := HFT c hro ca cc
          have HD1 := fun X hc => isDeep_any c hro.few ca cc X hc
          have HIC := hide hR.conds
          have HG2 := hide (show judgeFrom ⟨kar, kn, b0, b1, b2, b3⟩ ⟨ak, ae⟩ rs 0 = if fitsB c ⟨kar, kn, b0, b1, b2, b3⟩ then (if deepB c then (⟨4, 0⟩, i) else (c.act, 0)) else judgeFrom ⟨kar, kn, b0, b1, b2, b3⟩ ⟨ak, ae⟩ (rs.drop (i + 1)) (i + 1) by rw [HG.out, hdr, judgeFrom])
          obtain ⟨fz, hfz⟩ : ∃ z, z = fitsB c ⟨kar, kn, b0, b1, b2, b3⟩ := ⟨_, rfl⟩
          obtain ⟨dz, hdz⟩ : ∃ z, z = deepB c := ⟨_, rfl⟩
          rw [← hfz] at HF1 HG2
          rw [← hdz] at HD1 HG2
          obtain ⟨p0, p1, p2, p3, _, _, _, _⟩ := hR
          clear hfz hdz hro hcs hdr HG
          obtain ⟨nr, cs, ⟨rk, re⟩⟩ := c
          unfold ruleV at HF1 HD1
          simp only at p0 p1 p2 p3 HF1 HD1 HG2 HIC
          simp only [HKA.out] at HF1
          have g0 := keep_cell HB.out X0
          have z0 := keep_cell HB.out Y0
          have z1 := keep_cell HB.out Y1
          have z2 := keep_cell HB.out Y2
          have z3 := keep_cell HB.out Y3
          have z4 := keep_cell HB.out Y4
          have z5 := keep_cell HB.out Y5
          have lw : w.heap.size + 1 < wr.heap.size := block_lt_of_cell z0
          cases fz with
          | false =>
            rw [if_neg (by decide)] at HG2
            go_wp2_with (go_at_call 24; refine (HF1 _ (HIC.out.on (box_below _ _))).mono ?_; rintro e w1 ⟨rfl, hb1⟩)
            go_round
            case rel => exact ⟨i + 1, by omega, by go_num, HG2, hide (below_next HB.out (below_next (box_below _ _) hb1))⟩
            case measure => simp [intOf]; omega
          | true =>
            rw [if_pos rfl] at HG2
            obtain ⟨W1, hW1, hW1b, _, hW1c⟩ := one_box wr #[.int .i64 nr, .slice ca cs.length cc, .int .i64 rk, .int .i64 re] 65
            have r0 := hW1c 0
            have r1 := hW1c 1
            have r2 := hW1c 2
            have r3 := hW1c 3
            simp only [List.getElem?_toArray, List.getElem?_cons_zero, List.getElem?_cons_succ] at r0 r1 r2 r3
            clear hW1c
            cases dz with
            | true =>
              rw [if_pos rfl] at HG2
              go_wp2_with (first
                | (go_at_call 24; rw [← hW1]; refine (HF1 _ (HIC.out.on hW1b)).mono ?_; rintro e w1 ⟨rfl, hb1⟩; have s0 := keep_cell hb1 r0; have s1 := keep_cell hb1 r1; have s2 := keep_cell hb1 r2; have s3 := keep_cell hb1 r3; have HB1 := hide hb1; clear hb1)
                | (go_at_call 25; refine (HD1 _ ((HIC.out.on hW1b).on HB1.out)).mono ?_; rintro e w2 ⟨rfl, hb2⟩; have hr2 : w2.heap[w.heap.size + 2]? = some (.cells #[.int .i64 0, .int .i64 0, .int .i64 0] 46 (0, 0)) := ((below_next HVW.out (below_next hW1b (below_next HB1.out hb2))).block _ hsw).trans hz)
                | (refine wpList_store_row rfl 46 _ _ rfl (w.heap.size + 2) (verC ⟨4, 0⟩ i) rfl rfl 46 _ hr2 size_ver rfl (verC_one _ _) ?_))
              refine bodyPost_ret (v := .tuple #[.agg (verC ⟨4, 0⟩ i), .nilIface]) (results_ver rfl _ _ (w.heap.size + 2) (verC ⟨4, 0⟩ i) _ rfl rfl rfl (setRow_heap _ _ _ _ _ _ hr2)) rfl ⟨?_, below_setRow (below_next HW.out (below_next hW1b (below_next HB1.out hb2))) (by omega) _⟩
              rw [HV.out, HJ.out, HG2.out]
              rfl
            | false =>
              rw [if_neg (by decide)] at HG2
              go_wp2_with (first
                | (go_at_call 24; rw [← hW1]; refine (HF1 _ (HIC.out.on hW1b)).mono ?_; rintro e w1 ⟨rfl, hb1⟩; have s0 := keep_cell hb1 r0; have s1 := keep_cell hb1 r1; have s2 := keep_cell hb1 r2; have s3 := keep_cell hb1 r3; have HB1 := hide hb1; clear hb1)
                | (go_at_call 25; refine (HD1 _ ((HIC.out.on hW1b).on HB1.out)).mono ?_; rintro e w2 ⟨rfl, hb2⟩; have t2 := keep_cell hb2 s2; have t3 := keep_cell hb2 s3; have hr2 : w2.heap[w.heap.size + 2]? = some (.cells #[.int .i64 0, .int .i64 0, .int .i64 0] 46 (0, 0)) := ((below_next HVW.out (below_next hW1b (below_next HB1.out hb2))).block _ hsw).trans hz)
                | (refine wpList_store_row rfl 46 _ _ rfl (w.heap.size + 2) (verC ⟨rk, re⟩ 0) rfl rfl 46 _ hr2 size_ver rfl (verC_one _ _) ?_))
              refine bodyPost_ret (v := .tuple #[.agg (verC ⟨rk, re⟩ 0), .nilIface]) (results_ver rfl _ _ (w.heap.size + 2) (verC ⟨rk, re⟩ 0) _ rfl rfl rfl (setRow_heap _ _ _ _ _ _ hr2)) rfl ⟨?_, below_setRow (below_next HW.out (below_next hW1b (below_next HB1.out hb2))) (by omega) _⟩
              rw [HV.out, HJ.out, HG2.out]
              rfl
        · obtain rfl : i = n := by omega
          have HG2 := hide (show judgeFrom ⟨kar, kn, b0, b1, b2, b3⟩ ⟨ak, ae⟩ rs 0 = (⟨ak, ae⟩, 0) by
            rw [HG.out, List.drop_eq_nil_of_le (by rw [HN.out]; exact Nat.le_refl _), judgeFrom])
          have g1 := keep_cell HB.out X1
          have g2 := keep_cell HB.out X2
          have hr2 : wr.heap[w.heap.size + 2]? = some (.cells #[.int .i64 0, .int .i64 0, .int .i64 0] 46 (0, 0)) := (HVW.out.block _ hsw).trans hz
          go_wp2_with (refine wpList_store_row rfl 46 _ _ rfl (w.heap.size + 2) (verC ⟨ak, ae⟩ 0) rfl rfl 46 _ hr2 size_ver rfl (verC_one _ _) ?_)
          refine bodyPost_ret (v := .tuple #[.agg (verC ⟨ak, ae⟩ 0), .nilIface]) (results_ver rfl _ _ (w.heap.size + 2) (verC ⟨ak, ae⟩ 0) _ rfl rfl rfl (setRow_heap _ _ _ _ _ _ hr2)) rfl ⟨?_, below_setRow HW.out (by omega) _⟩
          rw [HV.out, HJ.out, HG2.out]
          rfl
    · have HJ := hide (show judgeR ⟨rs, ⟨ak, ae⟩⟩ ⟨kar, kn, b0, b1, b2, b3⟩ = (⟨3, 0⟩, 0) from if_neg ha)
      have ha' : ¬ (kar : Int) = 3221225534 := by omega
      clear ha
      go_enter Tryz.func11, Tryz.ntmps11
      go_wp2_with (first
        | (go_at_call 14; rw [← hV]; clear hV; refine HCK.mono ?_; rintro e X ⟨rfl, hX⟩; have Y0 := keep_cell hX y0; have hr2 : X.heap[w.heap.size + 2]? = some (.cells #[.int .i64 0, .int .i64 0, .int .i64 0] 46 (0, 0)) := (hX.block _ (by omega)).trans hz)
        | (refine wpList_store_row rfl 46 _ _ rfl (w.heap.size + 2) (verC ⟨3, 0⟩ 0) rfl rfl 46 _ hr2 size_ver rfl (verC_one _ _) ?_))
      refine bodyPost_ret (v := .tuple #[.agg (verC ⟨3, 0⟩ 0), .nilIface]) (results_ver rfl _ _ (w.heap.size + 2) (verC ⟨3, 0⟩ 0) _ rfl rfl rfl (setRow_heap _ _ _ _ _ _ hr2)) rfl ⟨?_, below_setRow (below_next hB hX) (by omega) _⟩
      rw [HV.out, HJ.out]
      rfl
  · have HV := hide (show judgeV p k = .tuple #[verV (⟨0, 0⟩, 0), .iface 75 (.int .i64 (polF p : Nat))] by unfold judgeV; rw [if_neg hf, errV_pos hf])
    rw [errV_pos hf] at HCK
    clear hf hpk hk HC
    unfold polV klV klC at *
    have x0 := hx 0
    have x1 := hx 1
    have x2 := hx 2
    simp only [List.getElem?_toArray, List.getElem?_cons_zero, List.getElem?_cons_succ] at x0 x1 x2
    clear hx hy
    go_enter Tryz.func11, Tryz.ntmps11
    go_wp2_with (first
      | (go_at_call 14; rw [← hV]; clear hV; refine HCK.mono ?_; rintro e X ⟨rfl, hX⟩; have hr2 : X.heap[w.heap.size + 2]? = some (.cells #[.int .i64 0, .int .i64 0, .int .i64 0] 46 (0, 0)) := (hX.block _ (by omega)).trans hz)
      | (refine wpList_store_row rfl 46 _ _ rfl (w.heap.size + 2) (verC ⟨0, 0⟩ 0) rfl rfl 46 _ hr2 size_ver rfl (verC_one _ _) ?_))
    refine bodyPost_ret (v := .tuple #[.agg (verC ⟨0, 0⟩ 0), .iface 75 (.int .i64 (polF p : Nat))]) (results_ver rfl _ _ (w.heap.size + 2) (verC ⟨0, 0⟩ 0) _ rfl rfl rfl (setRow_heap _ _ _ _ _ _ hr2)) rfl ⟨?_, below_setRow (below_next hB hX) (by omega) _⟩
    rw [HV.out]
    rfl
end Go.Proofs.YtkogafponpjdnaaGreatDoor

/- policy.Decide. -/
namespace Go.Proofs.YtkogafponpjdnaaGreatDoor
open Go.RowKit Go.Sort

theorem four_box (w : World) (x y z u : Array Value) (tx ty tz tu : TypeId) : ∃ V, V = (((w.alloc (.cells x tx)).alloc (.cells y ty)).alloc (.cells z tz)).alloc (.cells u tu) ∧ Below w.heap.size w V ∧ V.heap.size = w.heap.size + 4 ∧ (∀ j : Nat, V.cell? ⟨w.heap.size, j, none⟩ = x[j]?) ∧ (∀ j : Nat, V.cell? ⟨w.heap.size + 1, j, none⟩ = y[j]?) ∧ (∀ j : Nat, V.cell? ⟨w.heap.size + 2, j, none⟩ = z[j]?) ∧ V.heap[w.heap.size + 3]? = some (.cells u tu (0, 0)) := by
  obtain ⟨U, hU, hb, hs, h1, h2, h3⟩ := three_box w x y z tx ty tz
  refine ⟨U.alloc (.cells u tu), by rw [hU], below_next hb (box_below _ _), by rw [World.size_alloc, hs], fun j => ?_, fun j => ?_, fun j => ?_, ?_⟩
  · rw [← h1 j]; exact (bcell (box_below U _)).1 _ j (by omega)
  · rw [← h2 j]; exact (bcell (box_below U _)).1 _ j (by omega)
  · rw [(bcell (box_below U _)).1 _ j (by omega)]; exact cell_of_row _ _ j _ _ _ h3
  · rw [← hs]; exact heap_alloc_new _ _

set_option maxHeartbeats 2000000 in
set_option maxRecDepth 100000 in
theorem decide_any (p : POL) (oa : Option Addr) (cap : Nat) (k : KL) (hk : KlOk k) (v : VS) (hv : VsOk v) (w : World) (hp : IsPol oa cap p w) :
    Calls Tryz.prog 12 #[polV p oa cap, klV k, vsV v] w fun e w' => e = .returned (decideV p k v) ∧ Below w.heap.size w w' := by
  obtain ⟨n, hn⟩ : ∃ n, n = p.rules.length := ⟨_, rfl⟩
  obtain ⟨V, hV, hB, hVs, hx, hy, hu, hz⟩ := four_box w #[.slice oa p.rules.length cap, .int .i64 p.els.kind, .int .i64 p.els.errno] (klC k) (vsC v) #[.int .i64 0, .int .i64 0] 26 31 35 24
  have HCK := pcheck_any p oa cap V (hp.on hB)
  have HC := hide (pol_parts hp n hn)
  have hmax : n ≤ 9223372036854775807 := by have h1 := hp.le; have h2 := hp.cap; unfold maxLen at h2; omega
  have hpk := hp.ok
  clear hp
  unfold klC at hV hy
  unfold vsC at hV hu
  by_cases hf : polF p = 0
  · have hok := pol_ok hf hpk
    have HV := hide (show decideV p k v = .tuple #[actV (decideR p k v), .nilIface] by unfold decideV; rw [if_pos hf, hf]; rfl)
    rw [hf, errV_zero] at HCK
    have HRU := hide hok.rules
    have h12 : n ≤ 12 := by have := hok.few; omega
    have HFT := fun r hr oa cap X hc => fits_any r hr oa cap k hk X hc
    have HLT := fun r hr oa cap X hc => leads_any r hr oa cap v hv X hc
    clear hf hpk hok hk hv
    obtain ⟨rs, ⟨ak, ae⟩⟩ := p
    have HL := hide (show ∀ i, i < n → ∃ c, rs[i]? = some c ∧ rs.drop i = c :: rs.drop (i + 1) from fun i h => drop_next (by simp only at hn; omega))
    unfold polV klV klC vsV vsC at *
    simp only at *
    rw [← hn] at hV hx HCK ⊢
    have HN := hide hn
    clear hn
    obtain ⟨kar, kn, b0, b1, b2, b3⟩ := k
    obtain ⟨⟨pa0, ip0, po0⟩, ⟨pa1, ip1, po1⟩, ⟨pa2, ip2, po2⟩, ⟨pa3, ip3, po3⟩⟩ := v
    simp only at *
    have x0 := hx 0
    have x1 := hx 1
    have x2 := hx 2
    have y0 := hy 0
    have y1 := hy 1
    have y2 := hy 2
    have y3 := hy 3
    have y4 := hy 4
    have y5 := hy 5
    have vu0 := hu 0
    have vu1 := hu 1
    have vu2 := hu 2
    have vu3 := hu 3
    have vu4 := hu 4
    have vu5 := hu 5
    have vu6 := hu 6
    have vu7 := hu 7
    have vu8 := hu 8
    have vu9 := hu 9
    have vu10 := hu 10
    have vu11 := hu 11
    simp only [List.getElem?_toArray, List.getElem?_cons_zero, List.getElem?_cons_succ] at x0 x1 x2 y0 y1 y2 y3 y4 y5 vu0 vu1 vu2 vu3 vu4 vu5 vu6 vu7 vu8 vu9 vu10 vu11
    clear hx hy hu
    by_cases ha : kar = 3221225534
    · have HJ := hide (show decideR ⟨rs, ⟨ak, ae⟩⟩ ⟨kar, kn, b0, b1, b2, b3⟩ ⟨⟨pa0, ip0, po0⟩, ⟨pa1, ip1, po1⟩, ⟨pa2, ip2, po2⟩, ⟨pa3, ip3, po3⟩⟩ = decideFrom ⟨kar, kn, b0, b1, b2, b3⟩ ⟨⟨pa0, ip0, po0⟩, ⟨pa1, ip1, po1⟩, ⟨pa2, ip2, po2⟩, ⟨pa3, ip3, po3⟩⟩ ⟨ak, ae⟩ rs from if_pos ha)
      have ha' : (kar : Int) = 3221225534 := by omega
      rw [ha'] at hV y0 ⊢
      have HKA := hide ha'
      clear ha ha'
      obtain ⟨kk, hkk⟩ : ∃ k : KL, k = ⟨kar, kn, b0, b1, b2, b3⟩ := ⟨_, rfl⟩
      obtain ⟨vv, hvv⟩ : ∃ v : VS, v = ⟨⟨pa0, ip0, po0⟩, ⟨pa1, ip1, po1⟩, ⟨pa2, ip2, po2⟩, ⟨pa3, ip3, po3⟩⟩ := ⟨_, rfl⟩
      rw [← hkk, ← hvv] at HJ HV ⊢
      have HKK := hide hkk
      have HVV := hide hvv
      clear hkk hvv
      go_enter Tryz.func12, Tryz.ntmps12
      go_wp2_with (go_at_call 14; rw [← hV]; clear hV; refine HCK.mono ?_; rintro e X ⟨rfl, hX⟩; have X0 := keep_cell hX x0; have X1 := keep_cell hX x1; have X2 := keep_cell hX x2; have Y0 := keep_cell hX y0; refine Hid.out ?_)
      refine hide ?_
      go_wp2
      go_loopw [23] (fun I w' => ∃ i : Nat, i ≤ n ∧ I = .int .i64 i ∧ Hid (decideFrom kk vv ⟨ak, ae⟩ rs = decideFrom kk vv ⟨ak, ae⟩ (rs.drop i)) ∧ Hid (Below X.heap.size X w')) (fun I _ => n - (intOf I).toNat)
      case atStart => exact ⟨0, by omega, rfl, hide rfl, hide (Below.refl _ _)⟩
      case round =>
        obtain ⟨i, hi, rfl, HG, HB⟩ := hrel
        have HW := hide (below_next (below_next hB hX) HB.out)
        have HVW := hide (below_next hX HB.out)
        have hsw : w.heap.size + 3 < V.heap.size := by omega
        have hr2 : wr.heap[w.heap.size + 3]? = some (.cells #[.int .i64 0, .int .i64 0] 24 (0, 0)) := (HVW.out.block _ hsw).trans hz
        by_cases hlt : i < n
        · obtain ⟨c, hcs, hdr⟩ := HL.out i hlt
          obtain ⟨b, off, rfl, hbw, HA⟩ := HC.out (by omega)
          obtain ⟨ca, cc, hR0⟩ := HA.out i c hcs
          have hR := hR0.on hbw HW.out
          clear hR0
          have hro := HRU.out c (List.mem_of_getElem? hcs)
          have HF1 := HFT c hro ca cc
          have HD1 := HLT c hro ca cc
          have HIC := hide hR.conds
          have HG2 := hide (show decideFrom kk vv ⟨ak, ae⟩ rs = if fitsB c kk && leadsB c vv then c.act else decideFrom kk vv ⟨ak, ae⟩ (rs.drop (i + 1)) by rw [HG.out, hdr, decideFrom])
          rw [← HKK.out] at HF1
          rw [← HVV.out] at HD1
          obtain ⟨fz, hfz⟩ : ∃ z, z = fitsB c kk := ⟨_, rfl⟩
          obtain ⟨dz, hdz⟩ : ∃ z, z = leadsB c vv := ⟨_, rfl⟩
          rw [← hfz] at HF1 HG2
          rw [← hdz] at HD1 HG2
          obtain ⟨p0, p1, p2, p3, _, _, _, _⟩ := hR
          clear hfz hdz hro hcs hdr HG
          obtain ⟨nr, cs, ⟨rk, re⟩⟩ := c
          unfold ruleV at HF1 HD1
          simp only at p0 p1 p2 p3 HF1 HD1 HG2 HIC
          simp only [HKA.out] at HF1
          have g0 := cell_regrown (keep_cell HB.out X0)
          have z0 := cell_regrown (keep_cell HVW.out y0)
          have z1 := cell_regrown (keep_cell HVW.out y1)
          have z2 := cell_regrown (keep_cell HVW.out y2)
          have z3 := cell_regrown (keep_cell HVW.out y3)
          have z4 := cell_regrown (keep_cell HVW.out y4)
          have z5 := cell_regrown (keep_cell HVW.out y5)
          have w0 := cell_regrown (keep_cell HVW.out vu0)
          have w1 := cell_regrown (keep_cell HVW.out vu1)
          have w2 := cell_regrown (keep_cell HVW.out vu2)
          have w3 := cell_regrown (keep_cell HVW.out vu3)
          have w4 := cell_regrown (keep_cell HVW.out vu4)
          have w5 := cell_regrown (keep_cell HVW.out vu5)
          have w6 := cell_regrown (keep_cell HVW.out vu6)
          have w7 := cell_regrown (keep_cell HVW.out vu7)
          have w8 := cell_regrown (keep_cell HVW.out vu8)
          have w9 := cell_regrown (keep_cell HVW.out vu9)
          have w10 := cell_regrown (keep_cell HVW.out vu10)
          have w11 := cell_regrown (keep_cell HVW.out vu11)
          have r0 := cell_regrown p0
          have r1 := cell_regrown p1
          have r2 := cell_regrown p2
          have r3 := cell_regrown p3
          have cF : ∀ d os, Calls Tryz.prog 24 #[.agg #[.int .i64 nr, .slice ca cs.length cc, .int .i64 rk, .int .i64 re], .agg #[.int .u32 3221225534, .int .u32 kn, .int .u64 b0, .int .u64 b1, .int .u64 b2, .int .u64 b3]] (grow (redrawn wr d) os) fun e w'' => e = .returned (.bool fz) ∧ ∃ p : Regrown, w'' = grow (redrawn wr p.d) p.os := fun d os => Calls.regrown_of (HF1 _ (HIC.out.on (below_regrown _ _ _)))
          have cL : ∀ d os, Calls Tryz.prog 26 #[.agg #[.int .i64 nr, .slice ca cs.length cc, .int .i64 rk, .int .i64 re], .agg #[.string pa0, .int .u32 ip0, .int .i64 po0, .string pa1, .int .u32 ip1, .int .i64 po1, .string pa2, .int .u32 ip2, .int .i64 po2, .string pa3, .int .u32 ip3, .int .i64 po3]] (grow (redrawn wr d) os) fun e w'' => e = .returned (.bool dz) ∧ ∃ p : Regrown, w'' = grow (redrawn wr p.d) p.os := fun d os => Calls.regrown_of (HD1 _ (HIC.out.on (below_regrown _ _ _)))
          have i5 : (0 : Int) ≤ i := by omega
          have i6 : (i : Int) < n := by omega
          clear HF1 HD1 y0 y1 y2 y3 y4 y5 vu0 vu1 vu2 vu3 vu4 vu5 vu6 vu7 vu8 vu9 vu10 vu11 x0 x1 x2 X1 X2 Y0 p0 p1
          go_wp2
          refine wp_region_quiet_below (by kernel_rfl) (by kernel_rfl) ?_
          cases fz with
          | false =>
            rw [if_neg (by simp)] at HG2
            repeat (go_big_quiet_step (first | (go_at_call 24; exact cF _ _) | (go_at_call 26; exact cL _ _)))
            refine wpQuiet_nil ?_
            intro _ hw'
            obtain ⟨⟨dq, osq⟩, hw''⟩ := hw'
            subst hw''
            clear w0 w1 w2 w3 w4 w5 w6 w7 w8 w9 w10 w11 z0 z1 z2 z3 z4 z5 cF cL
            go_wp2
            go_round
            case rel => exact ⟨i + 1, by omega, by go_num, HG2, hide (below_next HB.out (below_regrown _ _ _))⟩
            case measure => simp [intOf]; omega
          | true =>
            cases dz with
            | false =>
              rw [if_neg (by simp)] at HG2
              repeat (go_big_quiet_step (first | (go_at_call 24; exact cF _ _) | (go_at_call 26; exact cL _ _)))
              refine wpQuiet_nil ?_
              intro _ hw'
              obtain ⟨⟨dq, osq⟩, hw''⟩ := hw'
              subst hw''
              clear w0 w1 w2 w3 w4 w5 w6 w7 w8 w9 w10 w11 z0 z1 z2 z3 z4 z5 cF cL
              go_wp2
              go_round
              case rel => exact ⟨i + 1, by omega, by go_num, HG2, hide (below_next HB.out (below_regrown _ _ _))⟩
              case measure => simp [intOf]; omega
            | true =>
              rw [if_pos (by simp)] at HG2
              repeat (go_big_quiet_step (first | (go_at_call 24; exact cF _ _) | (go_at_call 26; exact cL _ _)))
              refine wpQuiet_nil ?_
              intro _ hw'
              obtain ⟨⟨dq, osq⟩, hw''⟩ := hw'
              subst hw''
              clear w0 w1 w2 w3 w4 w5 w6 w7 w8 w9 w10 w11 z0 z1 z2 z3 z4 z5 cF cL
              have hr3 := ((below_regrown wr dq osq).block _ (Array.getElem?_eq_some_iff.1 hr2).1).trans hr2
              go_wp2_with (refine wpList_store_row rfl 24 _ _ rfl (w.heap.size + 3) #[.int .i64 rk, .int .i64 re] rfl rfl 24 _ hr3 size_action rfl (one2 _ _) ?_)
              refine bodyPost_ret (v := .tuple #[.agg #[.int .i64 rk, .int .i64 re], .nilIface]) (results_act rfl _ _ (w.heap.size + 3) #[.int .i64 rk, .int .i64 re] _ rfl rfl rfl (setRow_heap _ _ _ _ _ _ hr3)) rfl ⟨?_, below_setRow (below_next HW.out (below_regrown _ _ _)) (by omega) _⟩
              rw [HV.out, HJ.out, HG2.out]
              rfl
        · obtain rfl : i = n := by omega
          have HG2 := hide (show decideFrom kk vv ⟨ak, ae⟩ rs = ⟨ak, ae⟩ by
            rw [HG.out, List.drop_eq_nil_of_le (by rw [HN.out]; exact Nat.le_refl _), decideFrom])
          have g1 := keep_cell HB.out X1
          have g2 := keep_cell HB.out X2
          go_wp2_with (refine wpList_store_row rfl 24 _ _ rfl (w.heap.size + 3) #[.int .i64 ak, .int .i64 ae] rfl rfl 24 _ hr2 size_action rfl (one2 _ _) ?_)
          refine bodyPost_ret (v := .tuple #[.agg #[.int .i64 ak, .int .i64 ae], .nilIface]) (results_act rfl _ _ (w.heap.size + 3) #[.int .i64 ak, .int .i64 ae] _ rfl rfl rfl (setRow_heap _ _ _ _ _ _ hr2)) rfl ⟨?_, below_setRow HW.out (by omega) _⟩
          rw [HV.out, HJ.out, HG2.out]
          rfl
    · have HJ := hide (show decideR ⟨rs, ⟨ak, ae⟩⟩ ⟨kar, kn, b0, b1, b2, b3⟩ ⟨⟨pa0, ip0, po0⟩, ⟨pa1, ip1, po1⟩, ⟨pa2, ip2, po2⟩, ⟨pa3, ip3, po3⟩⟩ = ⟨3, 0⟩ from if_neg ha)
      have ha' : ¬ (kar : Int) = 3221225534 := by omega
      clear ha vu0 vu1 vu2 vu3 vu4 vu5 vu6 vu7 vu8 vu9 vu10 vu11
      go_enter Tryz.func12, Tryz.ntmps12
      go_wp2_with (first
        | (go_at_call 14; rw [← hV]; clear hV; refine HCK.mono ?_; rintro e X ⟨rfl, hX⟩; have Y0 := keep_cell hX y0; have hr2 : X.heap[w.heap.size + 3]? = some (.cells #[.int .i64 0, .int .i64 0] 24 (0, 0)) := (hX.block _ (by omega)).trans hz)
        | (refine wpList_store_row rfl 24 _ _ rfl (w.heap.size + 3) #[.int .i64 3, .int .i64 0] rfl rfl 24 _ hr2 size_action rfl (one2 _ _) ?_))
      refine bodyPost_ret (v := .tuple #[.agg #[.int .i64 3, .int .i64 0], .nilIface]) (results_act rfl _ _ (w.heap.size + 3) #[.int .i64 3, .int .i64 0] _ rfl rfl rfl (setRow_heap _ _ _ _ _ _ hr2)) rfl ⟨?_, below_setRow (below_next hB hX) (by omega) _⟩
      rw [HV.out, HJ.out]
      rfl
  · have HV := hide (show decideV p k v = .tuple #[actV ⟨0, 0⟩, .iface 75 (.int .i64 (polF p : Nat))] by unfold decideV; rw [if_neg hf, errV_pos hf])
    rw [errV_pos hf] at HCK
    clear hf hpk hk hv HC
    unfold polV klV klC vsV vsC at *
    have x0 := hx 0
    have x1 := hx 1
    have x2 := hx 2
    simp only [List.getElem?_toArray, List.getElem?_cons_zero, List.getElem?_cons_succ] at x0 x1 x2
    clear hx hy hu
    go_enter Tryz.func12, Tryz.ntmps12
    go_wp2_with (first
      | (go_at_call 14; rw [← hV]; clear hV; refine HCK.mono ?_; rintro e X ⟨rfl, hX⟩; have hr2 : X.heap[w.heap.size + 3]? = some (.cells #[.int .i64 0, .int .i64 0] 24 (0, 0)) := (hX.block _ (by omega)).trans hz)
      | (refine wpList_store_row rfl 24 _ _ rfl (w.heap.size + 3) #[.int .i64 0, .int .i64 0] rfl rfl 24 _ hr2 size_action rfl (one2 _ _) ?_))
    refine bodyPost_ret (v := .tuple #[.agg #[.int .i64 0, .int .i64 0], .iface 75 (.int .i64 (polF p : Nat))]) (results_act rfl _ _ (w.heap.size + 3) #[.int .i64 0, .int .i64 0] _ rfl rfl rfl (setRow_heap _ _ _ _ _ _ hr2)) rfl ⟨?_, below_setRow (below_next hB hX) (by omega) _⟩
    rw [HV.out]
    rfl
end Go.Proofs.YtkogafponpjdnaaGreatDoor

/- What judging by registers tells of deciding. -/
namespace Go.Proofs.YtkogafponpjdnaaGreatDoor

theorem act_kind {a : ACT} (h : actF a = 0) : a.kind ≠ 4 := by
  rcases act_cases h with rfl | rfl | ⟨n, _, _, rfl⟩ <;> simp
theorem num_lead {c : CD} (h : numB c = true) (v : VS) : leadB v c = true := by
  unfold numB kindOp at h
  unfold leadB
  split at h
  · cases h
  · rename_i h8
    rw [if_neg h8]
    split at h
    · cases h
    · rename_i h9
      rw [if_neg h9]
theorem flat_leads {r : RL} (h : deepB r = false) (v : VS) : leadsB r v = true := by
  unfold leadsB
  rw [List.all_eq_true]
  intro c hc
  apply num_lead
  unfold deepB at h
  rw [List.any_eq_false] at h
  have := h c hc
  simpa using this
theorem decide_kind (k : KL) (v : VS) (els : ACT) (he : actF els = 0) : ∀ rs : List RL, (∀ r ∈ rs, actF r.act = 0) → (decideFrom k v els rs).kind ≠ 4
  | [], _ => act_kind he
  | r :: t, h => by
    rw [decideFrom]
    split
    · exact act_kind (h r (List.mem_cons_self ..))
    · exact decide_kind k v els he t fun x hx => h x (List.mem_cons_of_mem _ hx)
theorem judge_decide (k : KL) (v : VS) (els : ACT) (he : actF els = 0) : ∀ (rs : List RL) (i : Nat), (∀ r ∈ rs, actF r.act = 0) →
    ((judgeFrom k els rs i).1.kind = 4 ∧ i ≤ (judgeFrom k els rs i).2 ∧ (judgeFrom k els rs i).2 < i + rs.length ∧ decideFrom k v els (rs.drop ((judgeFrom k els rs i).2 - i)) = decideFrom k v els rs) ∨
    ((judgeFrom k els rs i).1.kind ≠ 4 ∧ (judgeFrom k els rs i).2 = 0 ∧ decideFrom k v els rs = (judgeFrom k els rs i).1)
  | [], i, _ => .inr ⟨act_kind he, rfl, rfl⟩
  | r :: t, i, h => by
    rw [judgeFrom]
    by_cases hf : fitsB r k = true
    · rw [if_pos hf]
      cases hd : deepB r with
      | true => exact .inl ⟨rfl, Nat.le_refl _, by simp, by simp⟩
      | false =>
        refine .inr ⟨act_kind (h r (List.mem_cons_self ..)), rfl, ?_⟩
        rw [decideFrom, hf, flat_leads hd]
        rfl
    · rw [if_neg hf]
      have hd : decideFrom k v els (r :: t) = decideFrom k v els t := by rw [decideFrom, Bool.eq_false_iff.2 hf]; rfl
      rw [hd]
      rcases judge_decide k v els he t (i + 1) (fun x hx => h x (List.mem_cons_of_mem _ hx)) with ⟨a, b, c, d⟩ | ⟨a, b, c⟩
      · refine .inl ⟨a, by omega, by rw [List.length_cons]; omega, ?_⟩
        rw [show (judgeFrom k els t (i + 1)).2 - i = ((judgeFrom k els t (i + 1)).2 - (i + 1)) + 1 by omega, List.drop_succ_cons]
        exact d
      · exact .inr ⟨a, b, c⟩
theorem firstF_drop : ∀ (l : List Nat) (i : Nat), firstF l = 0 → firstF (l.drop i) = 0
  | _, 0, h => h
  | [], i + 1, _ => rfl
  | x :: r, i + 1, h => by
    rw [firstF] at h
    split at h
    · exact firstF_drop r i h
    · rename_i hx; exact absurd h hx
theorem polF_drop {p : POL} (h : polF p = 0) (i : Nat) : polF ⟨p.rules.drop i, p.els⟩ = 0 := by
  unfold polF at h ⊢
  split at h
  · cases h
  · rename_i hl
    split at h
    · rename_i ha
      rw [if_neg (by simp; omega)]
      simp only
      rw [if_pos ha, List.map_drop]
      exact firstF_drop _ i h
    · rename_i ha; exact absurd h ha
/-- What the whole says of a right policy. -/
theorem top_laws {p : POL} (h : PolOk p) (k : KL) (v : VS) :
    ((judgeR p k).1.kind = 4 ∧ (judgeR p k).2 < p.rules.length ∧ (decideR p k v).kind ≠ 4 ∧ decideR ⟨p.rules.drop (judgeR p k).2, p.els⟩ k v = decideR p k v) ∨
    ((judgeR p k).1.kind ≠ 4 ∧ (judgeR p k).2 = 0 ∧ decideR p k v = (judgeR p k).1) := by
  unfold judgeR decideR
  by_cases ha : k.arch = 3221225534
  · simp only [if_pos ha]
    have hr : ∀ r ∈ p.rules, actF r.act = 0 := fun r hr => (h.rules r hr).act
    rcases judge_decide k v p.els h.els p.rules 0 hr with ⟨a, _, c, d⟩ | ⟨a, b, c⟩
    · rw [Nat.sub_zero] at d
      exact .inl ⟨a, by omega, decide_kind k v p.els h.els p.rules hr, d⟩
    · exact .inr ⟨a, b, c⟩
  · simp only [if_neg ha]
    exact .inr (by simp)
end Go.Proofs.YtkogafponpjdnaaGreatDoor

/- The last step of a law's row: what 'post' asks, out of 'Below' (nothing that was there has turned), without the limb on frozen cells that 'again' alone wants. -/
namespace Go.Proofs.YtkogafponpjdnaaGreatDoor
open Go.ChangeShapes Go.WideShapes Go.ChangeAt Go.RowKit

theorem post_law {H : Type} {enc : TypeId × Value → H} {P : Program} {f : Func} {s : ChangeSpec} {apart fresh handsOn : Bool} {W W' : World} {args : Array Value} {v : Value} {ds gs : List (DataW H)} {before pa pv : List MemPlace}
    (hW : DataW.Whole enc P f.params.toList s.vars apart W args.toList ds gs before)
    (hres : ∀ (b : Nat) (sp : Nat → Bool) (hd : Bool), DataW.TrodAll enc P W' b sp hd f.resultTypes.toList (v.resultList f.resultTypes.size) (s.fn H (ds ++ gs)).results [])
    (hargs : ∀ sp : Nat → Bool, (∀ p ∈ before, sp p.block = true) → DataW.TrodAll enc P W' 0 sp true f.params.toList args.toList (s.fn H (ds ++ gs)).args pa)
    (hvars : ∀ sp : Nat → Bool, (∀ p ∈ before, sp p.block = true) → DataW.TrodVars enc P W' sp s.vars (s.fn H (ds ++ gs)).vars pv)
    (hps : before = pa ++ pv) (hk : Below W.heap.size W W') :
    s.post enc P f apart fresh handsOn false W args v W' := by
  have hold : ∀ p ∈ before, (fun b => decide (b < W.heap.size)) p.block = true := fun p hp => by simpa using hW.lt p hp
  refine ⟨ds, gs, before, [], pa, pv, hW, hres _ _ _, hargs _ hold, hvars _ hold, World.keptBut_mono (fun p hp => ⟨hp, ?_⟩) (hk.frame (· ∈ before)), fun h => by cases h⟩
  rw [hps, List.mem_append] at hp
  exact Or.inr hp
end Go.Proofs.YtkogafponpjdnaaGreatDoor

/- What the rows over slices of structs need besides: the last step, and cells of elements. -/
namespace Go.Proofs.YtkogafponpjdnaaGreatDoor
open Go.ChangeShapes Go.WideShapes Go.ChangeAt Go.RowKit Go.WideMaps Go.WideElems

theorem own : ownKnob Tryz.prog.godebug = none := by kernel_rfl
theorem laidOut : laidOutB Tryz.prog = true := by kernel_rfl

/-- 'post_law', the arguments read again under the one mode that is asked. -/
theorem post_law' {H : Type} {enc : TypeId × Value → H} {P : Program} {f : Func} {s : ChangeSpec} {apart fresh handsOn : Bool} {W W' : World} {args : Array Value} {v : Value} {ds gs : List (DataW H)} {before pa pv : List MemPlace}
    (hW : DataW.Whole enc P f.params.toList s.vars apart W args.toList ds gs before)
    (hres : ∀ (b : Nat) (sp : Nat → Bool) (hd : Bool), DataW.TrodAll enc P W' b sp hd f.resultTypes.toList (v.resultList f.resultTypes.size) (s.fn H (ds ++ gs)).results [])
    (hargs : DataW.TrodAll enc P W' 0 (fun b => decide (b < W.heap.size)) true f.params.toList args.toList (s.fn H (ds ++ gs)).args pa)
    (hvars : ∀ sp : Nat → Bool, (∀ p ∈ before, sp p.block = true) → DataW.TrodVars enc P W' sp s.vars (s.fn H (ds ++ gs)).vars pv)
    (hps : before = pa ++ pv) (hk : Below W.heap.size W W') :
    s.post enc P f apart fresh handsOn false W args v W' := by
  have hold : ∀ p ∈ before, (fun b => decide (b < W.heap.size)) p.block = true := fun p hp => by simpa using hW.lt p hp
  refine ⟨ds, gs, before, [], pa, pv, hW, hres _ _ _, hargs, hvars _ hold, World.keptBut_mono (fun p hp => ⟨hp, ?_⟩) (hk.frame (· ∈ before)), fun h => by cases h⟩
  rw [hps, List.mem_append] at hp
  exact Or.inr hp

theorem u64_wf {n : Int} (h : (Lit.int .u64 n).wf = true) : ∃ k : Nat, n = k ∧ k < 18446744073709551616 := by
  simp [Lit.wf, IntKind.min, IntKind.max, IntKind.signed, IntKind.bits] at h
  exact ⟨n.toNat, by omega, by omega⟩
theorem i64_wf {n : Int} (h : (Lit.int .i64 n).wf = true) : -9223372036854775808 ≤ n ∧ n ≤ 9223372036854775807 := by
  simp [Lit.wf, IntKind.min, IntKind.max, IntKind.signed, IntKind.bits] at h
  omega

theorem u32_wf {n : Int} (h : (Lit.int .u32 n).wf = true) : ∃ k : Nat, n = k ∧ k < 4294967296 := by
  simp [Lit.wf, IntKind.min, IntKind.max, IntKind.signed, IntKind.bits] at h
  exact ⟨n.toNat, by omega, by omega⟩

/-- The cells of element i of a slice at a plain address. -/
theorem elem_cells {w : World} {b off k i : Nat} {cs : List Value} (h : w.cells? 0 ((⟨b, off, none⟩ : Addr).add (i * k)) k = some cs) (j : Nat) (hj : j < k) : w.cell? ⟨b, off + i * k + j, none⟩ = cs[j]? := by
  have hc := (World.cells?_some h).2.2 j hj
  rw [Go.Deep.add_add, add_plain] at hc
  rw [show off + i * k + j = off + (i * k + j) by omega]
  exact hc

end Go.Proofs.YtkogafponpjdnaaGreatDoor
