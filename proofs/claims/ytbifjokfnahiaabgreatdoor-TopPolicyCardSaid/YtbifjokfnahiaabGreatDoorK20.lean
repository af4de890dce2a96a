/- Calls and values; what a rule asks of them. -/
import Derived.Test.YtbifjokfnahiaabGreatDoorK19
namespace Go.Proofs.YtbifjokfnahiaabGreatDoor
open Go.RowKit Go.Sort

/-- A call. -/
structure KL where
  arch : Nat
  nr : Nat
  a0 : Nat
  a1 : Nat
  a2 : Nat
  a3 : Nat
structure KlOk (c : KL) : Prop where
  arch : c.arch < 4294967296
  nr : c.nr < 4294967296
  a0 : c.a0 < 18446744073709551616
  a1 : c.a1 < 18446744073709551616
  a2 : c.a2 < 18446744073709551616
  a3 : c.a3 < 18446744073709551616
def klC (c : KL) : Array Value := #[.int .u32 c.arch, .int .u32 c.nr, .int .u64 c.a0, .int .u64 c.a1, .int .u64 c.a2, .int .u64 c.a3]
def klV (c : KL) : Value := .agg (klC c)
def regN (c : KL) : Nat → Nat
  | 0 => c.a0
  | 1 => c.a1
  | 2 => c.a2
  | 3 => c.a3
  | _ => 0
theorem regN_lt {c : KL} (h : KlOk c) (i : Nat) : regN c i < 18446744073709551616 := by
  match i with
  | 0 => exact h.a0
  | 1 => exact h.a1
  | 2 => exact h.a2
  | 3 => exact h.a3
  | i + 4 => simp [regN]
theorem regN_at (c : KL) (i : Nat) (h : i ≤ 3) : (klC c)[2 + i]? = some (.int .u64 (regN c i : Nat)) := by
  rcases (by omega : i = 0 ∨ i = 1 ∨ i = 2 ∨ i = 3) with rfl | rfl | rfl | rfl <;> rfl
/-- Does a cond on a number hold? -/
def holdsN (c : CD) (x : Nat) : Bool :=
  if c.op = 1 then x == c.v else if c.op = 2 then x != c.v else if c.op = 3 then decide (x < c.v) else if c.op = 4 then decide (x ≤ c.v)
  else if c.op = 5 then decide (c.v < x) else if c.op = 6 then decide (c.v ≤ x) else (x &&& c.m) == c.v

set_option maxHeartbeats 2000000 in
theorem holds_any (c : CD) (hc : CdOk c) (x : Nat) (hx : x < 18446744073709551616) (w : World) : Calls Tryz.prog 30 #[condV c, .int .u64 x] w fun e w' => e = .returned (.bool (holdsN c x)) ∧ Below w.heap.size w w' := by
  obtain ⟨arg, op, v, m, g, ⟨ip, b, lo, hi⟩⟩ := c
  have hand : bits .and .u64 (x : Int) (m : Int) = ((x &&& m : Nat) : Int) := u64_and_nat x m hx hc.m
  clear hc
  obtain ⟨y, hy⟩ : ∃ y : Nat, y = x &&& m := ⟨_, rfl⟩
  rw [← hy] at hand
  have HY := hide hy
  clear hy
  unfold condV
  simp only
  go_enter Tryz.func30, Tryz.ntmps30
  go_wp2
  all_goals
    go_ret
    refine ⟨ret_bool ?_, box_below _ _⟩
  all_goals
    clear hand
    first
    | (simp_all [holdsN]; done)
    | (rw [Bool.eq_iff_iff]; simp_all [holdsN]; done)
    | (rw [Bool.eq_iff_iff]; simp_all [holdsN]; omega)
    | (have := HY.out; rw [Bool.eq_iff_iff]; simp_all [holdsN]; omega)
end Go.Proofs.YtbifjokfnahiaabGreatDoor

/- fits, isDeep, leads. -/
namespace Go.Proofs.YtbifjokfnahiaabGreatDoor
open Go.RowKit Go.Sort

def numB (c : CD) : Bool := kindOp c.op == 1
/-- Does a cond that is on a number hold, or is it on none? -/
def regB (k : KL) (c : CD) : Bool := !numB c || holdsN c (regN k c.arg.toNat)
def fitsB (r : RL) (k : KL) : Bool := decide ((k.nr : Int) = r.nr) && r.conds.all (regB k)
def deepB (r : RL) : Bool := r.conds.any fun c => !numB c

theorem rule_parts {r : RL} {oa : Option Addr} {w : World} (hc : IsConds oa r.conds w) (n : Nat) (hn : n = r.conds.length) : 0 < n → ∃ b off, oa = some ⟨b, off, none⟩ ∧ b < w.heap.size ∧ Hid (∀ i c, r.conds[i]? = some c → CondAt w b (off + i * 9) c) := conds_parts hc n hn
theorem all_take_snoc {α : Type} {f : α → Bool} {l : List α} {i : Nat} {c : α} (h : l.take (i + 1) = l.take i ++ [c]) (h0 : (l.take i).all f = true) : (l.take (i + 1)).all f = f c := by rw [h, List.all_append, h0]; simp
theorem all_take_false {α : Type} {f : α → Bool} {l : List α} {i : Nat} (h : (l.take i).all f = false) : l.all f = false := by
  rw [← List.take_append_drop i l, List.all_append, h, Bool.false_and]

set_option maxHeartbeats 4000000 in
theorem isDeep_any (r : RL) (hf : r.conds.length ≤ 4) (oa : Option Addr) (cap : Nat) (w : World) (hc : IsConds oa r.conds w) :
    Calls Tryz.prog 18 #[ruleV r oa cap] w fun e w' => e = .returned (.bool (deepB r)) ∧ Below w.heap.size w w' := by
  obtain ⟨n, hn⟩ : ∃ n, n = r.conds.length := ⟨_, rfl⟩
  have HC := hide (conds_parts hc n hn)
  have h4 : n ≤ 4 := by omega
  have HL := hide (show ∀ i, i < n → ∃ c, r.conds[i]? = some c ∧ r.conds.take (i + 1) = r.conds.take i ++ [c] from fun i h => take_next (by omega))
  have HD := hide (show deepB r = !(r.conds.all numB) by unfold deepB; rw [List.any_eq_not_all_not]; simp)
  obtain ⟨z, hz⟩ : ∃ z, z = deepB r := ⟨_, rfl⟩
  rw [← hz] at HD ⊢
  clear hc hf hz
  obtain ⟨nr, cs, ⟨ak, ae⟩⟩ := r
  unfold ruleV
  simp only at HC HL HD hn ⊢
  rw [← hn]
  have HN := hide hn
  clear hn
  go_enter Tryz.func18, Tryz.ntmps18
  go_wp2
  obtain ⟨V, hV, hB, hsz, hx⟩ := one_box w #[.int .i64 nr, .slice oa n cap, .int .i64 ak, .int .i64 ae] 56
  rw [← hV]
  clear hV
  have k1 := hx 1
  go_loopw [7] (fun I w' => ∃ i : Nat, i ≤ n ∧ I = .int .i64 i ∧ Hid ((cs.take i).all numB = true) ∧ w' = V) (fun I _ => n - (intOf I).toNat)
  case atStart => exact ⟨0, by omega, rfl, hide rfl, rfl⟩
  case round =>
    obtain ⟨i, hi, rfl, HG, rfl⟩ := hrel
    by_cases hlt : i < n
    · obtain ⟨c, hcs, hcat⟩ := HL.out i hlt
      obtain ⟨b, off, rfl, hbw, HA⟩ := HC.out (by omega)
      have hA := (HA.out i c hcs).on fun j => (bcell hB).1 b j hbw
      have c1 := hA.k1
      have HQ := hide (all_take_snoc (f := numB) hcat HG.out)
      have HK := fun w => kindOf_any c.op w
      obtain ⟨ko, hko⟩ : ∃ k : Int, k = (kindOp c.op : Nat) := ⟨_, rfl⟩
      rw [← hko] at HK
      have hnb : numB c = (ko == 1) := by unfold numB; rw [hko, Bool.eq_iff_iff]; simp; omega
      rw [hnb] at HQ
      clear hko hnb hcs hcat hA hx
      obtain ⟨op, hop⟩ : ∃ o, o = c.op := ⟨_, rfl⟩
      rw [← hop] at HK c1
      clear hop
      cases hkb : (ko == 1) with
      | true =>
        rw [hkb] at HQ
        have hk1 : ko = 1 := by simpa using hkb
        subst hk1
        go_wp2_with (go_at_call 29; refine (HK _).mono ?_; rintro e w' ⟨rfl, rfl⟩)
        go_round
        case rel => exact ⟨i + 1, by omega, by go_num, HQ, trivial⟩
        case measure => simp [intOf]; omega
      | false =>
        rw [hkb] at HQ
        have hk1 : ¬ ko = 1 := by simpa using hkb
        have HZ := hide (show z = true by rw [HD.out, all_take_false HQ.out]; rfl)
        clear hkb
        go_wp2_with (go_at_call 29; refine (HK _).mono ?_; rintro e w' ⟨rfl, rfl⟩)
        go_ret
        exact ⟨ret_bool HZ.out.symm, hB⟩
    · obtain rfl : i = n := by omega
      have HZ := hide (show z = false by
        have := HG.out
        rw [List.take_of_length_le (by rw [HN.out]; exact Nat.le_refl _)] at this
        rw [HD.out, this]; rfl)
      go_wp2
      go_ret
      exact ⟨ret_bool HZ.out.symm, hB⟩

theorem shape_arg {c : CD} (h : Shape c) : ∃ a : Nat, c.arg = a ∧ a ≤ 3 := by
  cases h with
  | num a k v ha h1 h6 hv => exact ⟨a, rfl, ha⟩
  | mask a v m ha hv hm => exact ⟨a, rfl, ha⟩
  | like a g ha hg => exact ⟨a, rfl, ha⟩
  | net a ip b lo hi ha hip hf => exact ⟨a, rfl, ha⟩
set_option maxHeartbeats 4000000 in
theorem fits_any (r : RL) (h : RuleOk r) (oa : Option Addr) (cap : Nat) (k : KL) (hk : KlOk k) (w : World) (hc : IsConds oa r.conds w) :
    Calls Tryz.prog 17 #[ruleV r oa cap, klV k] w fun e w' => e = .returned (.bool (fitsB r k)) ∧ Below w.heap.size w w' := by
  obtain ⟨n, hn⟩ : ∃ n, n = r.conds.length := ⟨_, rfl⟩
  have HC := hide (conds_parts hc n hn)
  have h4 : n ≤ 4 := by have := h.few; omega
  have HSH := hide h.conds
  have HL := hide (show ∀ i, i < n → ∃ c, r.conds[i]? = some c ∧ r.conds.take (i + 1) = r.conds.take i ++ [c] from fun i h => take_next (by omega))
  obtain ⟨m, hm⟩ : ∃ m : Nat, r.nr = m := ⟨r.nr.toNat, by have := h.nr0; omega⟩
  have hm8 : m ≤ 8 := by have := h.nr8; omega
  have HZ := hide (show fitsB r k = (decide ((k.nr : Int) = r.nr) && r.conds.all (regB k)) from rfl)
  obtain ⟨z, hz⟩ : ∃ z, z = fitsB r k := ⟨_, rfl⟩
  rw [← hz] at HZ ⊢
  clear hc hz h
  obtain ⟨nr, cs, ⟨ak, ae⟩⟩ := r
  unfold ruleV klV klC
  simp only at HC HL HZ HSH hn hm ⊢
  subst hm
  rw [← hn]
  have HN := hide hn
  clear hn
  have hwr : IntKind.u32.wrap (m : Int) = m := by rw [IntKind.wrap_u32]; omega
  by_cases hne : k.nr = m
  · have HZ2 := hide (show z = cs.all (regB k) by rw [HZ.out, hne]; simp)
    have hnn : (k.nr : Int) = m := by omega
    clear HZ
    obtain ⟨V, hV, hB, hx, hy⟩ := two_box w #[.int .i64 m, .slice oa n cap, .int .i64 ak, .int .i64 ae] (klC k) 56 31
    have HY := hide hy
    have k1 := hx 1
    have kn := hy 1
    have kn2 : V.cell? ⟨w.heap.size + 1, 1, none⟩ = some (.int .u32 m) := by rw [kn]; show some (Value.int .u32 (k.nr : Int)) = _; rw [hnn]
    clear kn hy
    unfold klC at hV
    rw [hnn] at hV ⊢
    have HREG := hide (regN_at k)
    have HKO := hide (fun i => regN_lt hk i)
    obtain ⟨kar, hkar⟩ : ∃ x, x = k.arch := ⟨_, rfl⟩
    obtain ⟨kb0, hkb0⟩ : ∃ x, x = k.a0 := ⟨_, rfl⟩
    obtain ⟨kb1, hkb1⟩ : ∃ x, x = k.a1 := ⟨_, rfl⟩
    obtain ⟨kb2, hkb2⟩ : ∃ x, x = k.a2 := ⟨_, rfl⟩
    obtain ⟨kb3, hkb3⟩ : ∃ x, x = k.a3 := ⟨_, rfl⟩
    rw [← hkar, ← hkb0, ← hkb1, ← hkb2, ← hkb3] at hV ⊢
    clear hkar hkb0 hkb1 hkb2 hkb3 hk hne hnn
    go_enter Tryz.func17, Tryz.ntmps17
    go_wp2
    rw [← hV]
    clear hV
    go_loopw [16] (fun I w' => ∃ i : Nat, i ≤ n ∧ I = .int .i64 i ∧ Hid ((cs.take i).all (regB k) = true) ∧ Hid (Below V.heap.size V w')) (fun I _ => n - (intOf I).toNat)
    case atStart => exact ⟨0, by omega, rfl, hide rfl, hide (Below.refl _ _)⟩
    case round =>
      obtain ⟨i, hi, rfl, HG, HB⟩ := hrel
      have HW := hide (below_next hB HB.out)
      by_cases hlt : i < n
      · obtain ⟨c, hcs, hcat⟩ := HL.out i hlt
        obtain ⟨b, off, rfl, hbw, HA⟩ := HC.out (by omega)
        have hA := (HA.out i c hcs).on fun j => (bcell HW.out).1 b j hbw
        have HQ := hide (all_take_snoc (f := regB k) hcat HG.out)
        have hok := hA.ok
        obtain ⟨a, haa, ha3⟩ := shape_arg (HSH.out c (List.mem_of_getElem? hcs))
        obtain ⟨x, hxx⟩ : ∃ x, x = regN k a := ⟨_, rfl⟩
        have hxl : x < 18446744073709551616 := by rw [hxx]; exact HKO.out a
        have kreg := (HY.out (2 + a)).trans (HREG.out a ha3)
        rw [← hxx] at kreg
        have HH := fun w => holds_any c hok x hxl w
        have HRB := hide (show regB k c = (!numB c || holdsN c x) by unfold regB; rw [haa, Int.toNat_natCast, hxx])
        obtain ⟨hl, hhl⟩ : ∃ z, z = holdsN c x := ⟨_, rfl⟩
        rw [← hhl] at HH HRB
        have HK := fun w => kindOf_any c.op w
        obtain ⟨ko, hko⟩ : ∃ k : Int, k = (kindOp c.op : Nat) := ⟨_, rfl⟩
        rw [← hko] at HK
        have hnb : numB c = (ko == 1) := by unfold numB; rw [hko, Bool.eq_iff_iff]; simp; omega
        rw [hnb] at HRB
        rw [HRB.out] at HQ
        obtain ⟨p0, p1, p2, p3, p4, p5, p6, p7, p8, _⟩ := hA
        clear hko hnb hcs hcat hxx hxl hhl hok HRB
        obtain ⟨arg, op, v, mm, gl, ⟨ip, bb, lo, hh⟩⟩ := c
        unfold condV at HH
        simp only at p0 p1 p2 p3 p4 p5 p6 p7 p8 HH HK haa
        subst haa
        have g1 := keep_cell HB.out k1
        have i1 : (0 : Int) ≤ a := by omega
        have i2 : (a : Int) < 4 := by omega
        go_wp2
        obtain ⟨W1, hW1, hW1b, _, hW1c⟩ := one_box wr #[.int .i64 a, .int .i64 op, .int .u64 v, .int .u64 mm, .string gl, .int .u32 ip, .int .i64 bb, .int .i64 lo, .int .i64 hh] 60
        rw [← hW1]
        clear hW1
        have g0 := cell_regrown (hW1c 0)
        have g1' := cell_regrown (hW1c 1)
        have g2 := cell_regrown (hW1c 2)
        have g3 := cell_regrown (hW1c 3)
        have g4 := cell_regrown (hW1c 4)
        have g5 := cell_regrown (hW1c 5)
        have g6 := cell_regrown (hW1c 6)
        have g7 := cell_regrown (hW1c 7)
        have g8 := cell_regrown (hW1c 8)
        have gr := cell_regrown (keep_cell (below_next HB.out hW1b) kreg)
        have cK : ∀ d os, Calls Tryz.prog 29 #[.int .i64 op] (grow (redrawn W1 d) os) fun e w'' => e = .returned (.int .i64 ko) ∧ ∃ p : Regrown, w'' = grow (redrawn W1 p.d) p.os := fun d os => regrown_same (HK _)
        have cH : ∀ d os, Calls Tryz.prog 30 #[.agg #[.int .i64 a, .int .i64 op, .int .u64 v, .int .u64 mm, .string gl, .int .u32 ip, .int .i64 bb, .int .i64 lo, .int .i64 hh], .int .u64 x] (grow (redrawn W1 d) os) fun e w'' => e = .returned (.bool hl) ∧ ∃ p : Regrown, w'' = grow (redrawn W1 p.d) p.os := fun d os => Calls.regrown_of (HH _)
        clear hW1c p0 p1 p2 p3 p4 p5 p6 p7 p8 HH HK kreg
        cases hkb : (ko == 1) with
        | false =>
          rw [hkb] at HQ
          refine wp_region_quiet_below (by kernel_rfl) (by kernel_rfl) ?_
          repeat (go_big_quiet_step (first | (go_at_call 29; exact cK _ _) | (go_at_call 30; exact cH _ _)))
          refine wpQuiet_nil ?_
          intro _ hw'
          obtain ⟨⟨dq, osq⟩, hw''⟩ := hw'
          subst hw''
          go_wp2
          go_round
          case rel => exact ⟨i + 1, by omega, by go_num, HQ, hide (below_next (below_next HB.out hW1b) (below_regrown _ _ _))⟩
          case measure => simp [intOf]; omega
        | true =>
          rw [hkb] at HQ
          cases hl with
          | true =>
            refine wp_region_quiet_below (by kernel_rfl) (by kernel_rfl) ?_
            repeat (go_big_quiet_step (first | (go_at_call 29; exact cK _ _) | (go_at_call 30; exact cH _ _)))
            refine wpQuiet_nil ?_
            intro _ hw'
            obtain ⟨⟨dq, osq⟩, hw''⟩ := hw'
            subst hw''
            go_wp2
            go_round
            case rel => exact ⟨i + 1, by omega, by go_num, HQ, hide (below_next (below_next HB.out hW1b) (below_regrown _ _ _))⟩
            case measure => simp [intOf]; omega
          | false =>
            have HF := hide (show z = false by rw [HZ2.out]; exact all_take_false HQ.out)
            refine wp_region_quiet_below (by kernel_rfl) (by kernel_rfl) ?_
            repeat (go_big_quiet_step (first | (go_at_call 29; exact cK _ _) | (go_at_call 30; exact cH _ _)))
            refine wpQuiet_nil ?_
            intro _ hw'
            obtain ⟨⟨dq, osq⟩, hw''⟩ := hw'
            subst hw''
            go_wp2
            go_ret
            exact ⟨ret_bool HF.out.symm, below_next (below_next HW.out hW1b) (below_regrown _ _ _)⟩
      · obtain rfl : i = n := by omega
        have HF := hide (show z = true by
          have := HG.out
          rw [List.take_of_length_le (by rw [HN.out]; exact Nat.le_refl _)] at this
          rw [HZ2.out, this])
        go_wp2
        go_ret
        exact ⟨ret_bool HF.out.symm, HW.out⟩
  · have HF := hide (show z = false by
      rw [HZ.out, decide_eq_false (by omega), Bool.false_and])
    have hn1 : ¬ (k.nr : Int) = m := by omega
    clear hne HZ
    go_enter Tryz.func17, Tryz.ntmps17
    go_wp2
    go_ret
    exact ⟨ret_bool HF.out.symm, below_next (box_below _ _) (box_below _ _)⟩
end Go.Proofs.YtbifjokfnahiaabGreatDoor

/- leads. -/
namespace Go.Proofs.YtbifjokfnahiaabGreatDoor
open Go.RowKit Go.Sort

/-- A value that a pointer leads to. -/
structure VL where
  path : ByteArray
  ip : Nat
  port : Int
structure VlOk (v : VL) : Prop where
  path : v.path.size ≤ 1000
  ip : v.ip < 4294967296
  port : I64 v.port
/-- The values of a call. -/
structure VS where
  v0 : VL
  v1 : VL
  v2 : VL
  v3 : VL
def VS.at (v : VS) : Nat → VL
  | 0 => v.v0
  | 1 => v.v1
  | 2 => v.v2
  | _ => v.v3
structure VsOk (v : VS) : Prop where
  v0 : VlOk v.v0
  v1 : VlOk v.v1
  v2 : VlOk v.v2
  v3 : VlOk v.v3
theorem VsOk.at {v : VS} (h : VsOk v) (i : Nat) : VlOk (v.at i) := by
  match i with
  | 0 => exact h.v0
  | 1 => exact h.v1
  | 2 => exact h.v2
  | i + 3 => exact h.v3
def vsC (v : VS) : Array Value := #[.string v.v0.path, .int .u32 v.v0.ip, .int .i64 v.v0.port, .string v.v1.path, .int .u32 v.v1.ip, .int .i64 v.v1.port, .string v.v2.path, .int .u32 v.v2.ip, .int .i64 v.v2.port, .string v.v3.path, .int .u32 v.v3.ip, .int .i64 v.v3.port]
def vsV (v : VS) : Value := .agg (vsC v)
theorem vsC_at (v : VS) (i : Nat) (h : i ≤ 3) : (vsC v)[i * 3]? = some (.string (v.at i).path) ∧ (vsC v)[i * 3 + 1]? = some (.int .u32 (v.at i).ip) ∧ (vsC v)[i * 3 + 2]? = some (.int .i64 (v.at i).port) := by
  rcases (by omega : i = 0 ∨ i = 1 ∨ i = 2 ∨ i = 3) with rfl | rfl | rfl | rfl <;> exact ⟨rfl, rfl, rfl⟩
def netHas (n : NT) (y : VL) : Bool := hasOf n.ip n.bits n.lo n.hi y.ip y.port
/-- Does a cond on what a pointer leads to hold, or is it on none? -/
def leadB (v : VS) (c : CD) : Bool := if c.op = 8 then Gl.matchR c.glob (v.at c.arg.toNat).path else if c.op = 9 then netHas c.net (v.at c.arg.toNat) else true
def leadsB (r : RL) (v : VS) : Bool := r.conds.all (leadB v)

set_option maxHeartbeats 4000000 in
set_option maxRecDepth 100000 in
theorem leads_any (r : RL) (h : RuleOk r) (oa : Option Addr) (cap : Nat) (v : VS) (hv : VsOk v) (w : World) (hc : IsConds oa r.conds w) :
    Calls Tryz.prog 19 #[ruleV r oa cap, vsV v] w fun e w' => e = .returned (.bool (leadsB r v)) ∧ Below w.heap.size w w' := by
  obtain ⟨n, hn⟩ : ∃ n, n = r.conds.length := ⟨_, rfl⟩
  have HC := hide (conds_parts hc n hn)
  have h4 : n ≤ 4 := by have := h.few; omega
  have HSH := hide h.conds
  have HL := hide (show ∀ i, i < n → ∃ c, r.conds[i]? = some c ∧ r.conds.take (i + 1) = r.conds.take i ++ [c] from fun i h => take_next (by omega))
  have HZ := hide (show leadsB r v = r.conds.all (leadB v) from rfl)
  obtain ⟨z, hz⟩ : ∃ z, z = leadsB r v := ⟨_, rfl⟩
  rw [← hz] at HZ ⊢
  clear hc hz h
  obtain ⟨nr, cs, ⟨ak, ae⟩⟩ := r
  obtain ⟨vc, hvc⟩ : ∃ c, c = vsC v := ⟨_, rfl⟩
  have hvs : vc.size = 12 := by rw [hvc]; rfl
  unfold ruleV vsV
  simp only at HC HL HZ HSH hn ⊢
  rw [← hn, ← hvc]
  have HN := hide hn
  have HVC := hide hvc
  clear hn hvc
  obtain ⟨V, hV, hB, hx, hy⟩ := two_box w #[.int .i64 nr, .slice oa n cap, .int .i64 ak, .int .i64 ae] vc 56 35
  have HY := hide hy
  have k1 := hx 1
  clear hy
  go_enter Tryz.func19, Tryz.ntmps19
  go_wp2
  rw [← hV]
  clear hV
  go_loopw [11] (fun I w' => ∃ i : Nat, i ≤ n ∧ I = .int .i64 i ∧ Hid ((cs.take i).all (leadB v) = true) ∧ Hid (Below V.heap.size V w')) (fun I _ => n - (intOf I).toNat)
  case atStart => exact ⟨0, by omega, rfl, hide rfl, hide (Below.refl _ _)⟩
  case round =>
    obtain ⟨i, hi, rfl, HG, HB⟩ := hrel
    have HW := hide (below_next hB HB.out)
    by_cases hlt : i < n
    · obtain ⟨c, hcs, hcat⟩ := HL.out i hlt
      obtain ⟨b, off, rfl, hbw, HA⟩ := HC.out (by omega)
      have hA := (HA.out i c hcs).on fun j => (bcell HW.out).1 b j hbw
      have HQ := hide (all_take_snoc (f := leadB v) hcat HG.out)
      have hok := hA.ok
      have hsh := HSH.out c (List.mem_of_getElem? hcs)
      obtain ⟨a, haa, ha3⟩ := shape_arg hsh
      obtain ⟨y, hyy⟩ : ∃ y, y = v.at a := ⟨_, rfl⟩
      have hyo : VlOk y := by rw [hyy]; exact hv.at a
      have hya := vsC_at v a ha3
      rw [← HVC.out, ← hyy] at hya
      have q0 := keep_cell HB.out ((HY.out (a * 3)).trans hya.1)
      have q1 := keep_cell HB.out ((HY.out (a * 3 + 1)).trans hya.2.1)
      have q2 := keep_cell HB.out ((HY.out (a * 3 + 2)).trans hya.2.2)
      have lw : w.heap.size + 1 < wr.heap.size := block_lt_of_cell q0
      have g1 := keep_cell HB.out k1
      have HM := fun (hg : c.glob.size ≤ 24) w => Gl.match_any c.glob y.path (by omega) hyo.path w
      have HH := fun w => has_any c.net.ip hok.net.ip c.net.bits c.net.lo c.net.hi hok.net.bits hok.net.lo hok.net.hi y.ip hyo.ip y.port w
      have hlb : leadB v c = if c.op = 8 then Gl.matchR c.glob y.path else if c.op = 9 then netHas c.net y else true := by unfold leadB; rw [haa, Int.toNat_natCast, hyy]
      rw [hlb] at HQ
      have hgl : c.op = 8 → c.glob.size ≤ 24 := fun h8 => by
        cases hsh with
        | num a k v ha h1 h6 hv => simp only at h8; omega
        | mask a v m ha hv hm => simp only at h8; omega
        | like a g ha hg => exact (glob_print hg).2
        | net a ip b lo hi ha hip hf => simp only at h8; omega
      obtain ⟨p0, p1, p2, p3, p4, p5, p6, p7, p8, _⟩ := hA
      clear hsh hya hyy hyo hok hcs hcat hlb
      obtain ⟨yp, yi, yo⟩ := y
      obtain ⟨arg, op, vv, mm, gl, ⟨ip, bb, lo, hh⟩⟩ := c
      simp only at p0 p1 p2 p3 p4 p5 p6 p7 p8 HH HM haa hgl HQ q0 q1 q2
      unfold netHas at HQ
      simp only at HQ
      subst haa
      have i1 : (0 : Int) ≤ a := by omega
      have i2 : (a : Int) < 4 := by omega
      by_cases h8 : op = 8
      · subst h8
        replace HM := HM (hgl rfl)
        rw [if_pos rfl] at HQ
        obtain ⟨mr, hmr⟩ : ∃ m, m = Gl.matchR gl yp := ⟨_, rfl⟩
        rw [← hmr] at HQ HM
        clear hmr hgl HH
        cases mr with
        | true =>
          go_wp2_with (go_at_call 31; refine (HM _).mono ?_; rintro e w1 ⟨rfl, hb1⟩)
          go_round
          case rel => exact ⟨i + 1, by omega, by go_num, HQ, hide (below_next (below_next HB.out (below_next (box_below _ _) (box_below _ _))) hb1)⟩
          case measure => simp [intOf]; omega
        | false =>
          have HF := hide (show z = false by rw [HZ.out]; exact all_take_false HQ.out)
          go_wp2_with (go_at_call 31; refine (HM _).mono ?_; rintro e w1 ⟨rfl, hb1⟩)
          go_ret
          exact ⟨ret_bool HF.out.symm, below_next (below_next HW.out (below_next (box_below _ _) (box_below _ _))) hb1⟩
      · rw [if_neg h8] at HQ
        by_cases h9 : op = 9
        · subst h9
          rw [if_pos rfl] at HQ
          obtain ⟨mr, hmr⟩ : ∃ m, m = hasOf ip bb lo hh yi yo := ⟨_, rfl⟩
          rw [← hmr] at HQ HH
          clear hmr hgl HM
          cases mr with
          | true =>
            go_wp2_with (go_at_call 32; refine (HH _).mono ?_; rintro e w1 ⟨rfl, hb1⟩)
            go_round
            case rel => exact ⟨i + 1, by omega, by go_num, HQ, hide (below_next (below_next HB.out (below_next (box_below _ _) (box_below _ _))) hb1)⟩
            case measure => simp [intOf]; omega
          | false =>
            have HF := hide (show z = false by rw [HZ.out]; exact all_take_false HQ.out)
            go_wp2_with (go_at_call 32; refine (HH _).mono ?_; rintro e w1 ⟨rfl, hb1⟩)
            go_ret
            exact ⟨ret_bool HF.out.symm, below_next (below_next HW.out (below_next (box_below _ _) (box_below _ _))) hb1⟩
        · rw [if_neg h9] at HQ
          clear HM HH hgl
          go_wp2
          go_round
          case rel => exact ⟨i + 1, by omega, by go_num, HQ, hide (below_next HB.out (below_next (box_below _ _) (box_below _ _)))⟩
          case measure => simp [intOf]; omega
    · obtain rfl : i = n := by omega
      have HF := hide (show z = true by
        have := HG.out
        rw [List.take_of_length_le (by rw [HN.out]; exact Nat.le_refl _)] at this
        rw [HZ.out, this])
      go_wp2
      go_ret
      exact ⟨ret_bool HF.out.symm, HW.out⟩
end Go.Proofs.YtbifjokfnahiaabGreatDoor
