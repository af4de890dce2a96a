/- Policies, calls and values that came in, opened. -/
import Derived.Test.YtkogafponpjdnaaGreatDoorK7
import Derived.Test.YtkogafponpjdnaaGreatDoorCards
import Derived.Test.YtkogafponpjdnaaGreatDoorTie
import Derived.LaidMore
import Derived.Stop.Joined
import Derived.MakeChecks
import Derived.Lib.LaidTab
import Derived.Stop.LaidErr
import Derived.Shelf.Vars
import Derived.BigQuiet
import Derived.Laws.AppendOwnNone
import Derived.Test.YtkogafponpjdnaaGreatDoorK1
import Derived.Lib.ItoaLen
import Derived.Laws.BytesString
import Derived.Test.YtkogafponpjdnaaGreatDoorK5
import Derived.Deep.RegionWith
namespace Go.Proofs.YtkogafponpjdnaaGreatDoor
open Go.ChangeShapes Go.WideShapes Go.ChangeAt Go.RowKit Go.WideMaps Go.WideElems

theorem cond_fields : ∃ f0 f1 f2 f3 f4 f5 : Field, Tryz.prog.underlying 69 = some (.struct #[f0, f1, f2, f3, f4, f5]) ∧ (f0.type = 3 ∧ f1.type = 3 ∧ f2.type = 28 ∧ f3.type = 28 ∧ f4.type = 9 ∧ f5.type = 67) ∧ (f0.offset = 0 ∧ f1.offset = 1 ∧ f2.offset = 2 ∧ f3.offset = 3 ∧ f4.offset = 4 ∧ f5.offset = 5) :=
  ⟨_, _, _, _, _, _, Tryz.underlying69, ⟨by kernel_rfl, by kernel_rfl, by kernel_rfl, by kernel_rfl, by kernel_rfl, by kernel_rfl⟩, by kernel_rfl, by kernel_rfl, by kernel_rfl, by kernel_rfl, by kernel_rfl, by kernel_rfl⟩
theorem net_fields : ∃ f0 f1 f2 f3 : Field, Tryz.prog.underlying 67 = some (.struct #[f0, f1, f2, f3]) ∧ (f0.type = 27 ∧ f1.type = 3 ∧ f2.type = 3 ∧ f3.type = 3) ∧ (f0.offset = 0 ∧ f1.offset = 1 ∧ f2.offset = 2 ∧ f3.offset = 3) :=
  ⟨_, _, _, _, Tryz.underlying67, ⟨by kernel_rfl, by kernel_rfl, by kernel_rfl, by kernel_rfl⟩, by kernel_rfl, by kernel_rfl, by kernel_rfl, by kernel_rfl⟩
theorem rule_fields : ∃ f0 f1 f2 : Field, Tryz.prog.underlying 65 = some (.struct #[f0, f1, f2]) ∧ (f0.type = 3 ∧ f1.type = 63 ∧ f2.type = 24) ∧ (f0.offset = 0 ∧ f1.offset = 1 ∧ f2.offset = 2) :=
  ⟨_, _, _, Tryz.underlying65, ⟨by kernel_rfl, by kernel_rfl, by kernel_rfl⟩, by kernel_rfl, by kernel_rfl, by kernel_rfl⟩
theorem action_fields : ∃ f0 f1 : Field, Tryz.prog.underlying 24 = some (.struct #[f0, f1]) ∧ (f0.type = 3 ∧ f1.type = 3) ∧ (f0.offset = 0 ∧ f1.offset = 1) :=
  ⟨_, _, Tryz.underlying24, ⟨by kernel_rfl, by kernel_rfl⟩, by kernel_rfl, by kernel_rfl⟩
theorem pol_fields : ∃ f0 f1 : Field, Tryz.prog.underlying 26 = some (.struct #[f0, f1]) ∧ (f0.type = 22 ∧ f1.type = 24) ∧ (f0.offset = 0 ∧ f1.offset = 1) :=
  ⟨_, _, Tryz.underlying26, ⟨by kernel_rfl, by kernel_rfl⟩, by kernel_rfl, by kernel_rfl⟩
theorem call_fields : ∃ f0 f1 f2 : Field, Tryz.prog.underlying 31 = some (.struct #[f0, f1, f2]) ∧ (f0.type = 27 ∧ f1.type = 27 ∧ f2.type = 29) ∧ (f0.offset = 0 ∧ f1.offset = 1 ∧ f2.offset = 2) :=
  ⟨_, _, _, Tryz.underlying31, ⟨by kernel_rfl, by kernel_rfl, by kernel_rfl⟩, by kernel_rfl, by kernel_rfl, by kernel_rfl⟩
theorem value_fields : ∃ f0 f1 f2 : Field, Tryz.prog.underlying 33 = some (.struct #[f0, f1, f2]) ∧ (f0.type = 9 ∧ f1.type = 27 ∧ f2.type = 3) ∧ (f0.offset = 0 ∧ f1.offset = 1 ∧ f2.offset = 2) :=
  ⟨_, _, _, Tryz.underlying33, ⟨by kernel_rfl, by kernel_rfl, by kernel_rfl⟩, by kernel_rfl, by kernel_rfl, by kernel_rfl⟩
theorem cells_cond : Tryz.prog.cellsOf 69 = 9 := by kernel_rfl
theorem cells_net : Tryz.prog.cellsOf 67 = 4 := by kernel_rfl
theorem cells_rule : Tryz.prog.cellsOf 65 = 4 := by kernel_rfl
theorem cells_action : Tryz.prog.cellsOf 24 = 2 := by kernel_rfl
theorem cells_pol : Tryz.prog.cellsOf 26 = 3 := by kernel_rfl
theorem cells_conds : Tryz.prog.cellsOf 63 = 1 := by kernel_rfl
theorem cells_rules : Tryz.prog.cellsOf 22 = 1 := by kernel_rfl
theorem cells_call : Tryz.prog.cellsOf 31 = 6 := by kernel_rfl
theorem cells_value : Tryz.prog.cellsOf 33 = 3 := by kernel_rfl
theorem cells_vals : Tryz.prog.cellsOf 35 = 12 := by kernel_rfl
theorem cells_i : Tryz.prog.cellsOf 3 = 1 := by kernel_rfl
theorem cells_s : Tryz.prog.cellsOf 9 = 1 := by kernel_rfl
theorem cells_32 : Tryz.prog.cellsOf 27 = 1 := by kernel_rfl
theorem cells_64 : Tryz.prog.cellsOf 28 = 1 := by kernel_rfl
theorem cells_arr4 : Tryz.prog.cellsOf 29 = 4 := by kernel_rfl

theorem list2 {α : Type} {l : List α} (h : l.length = 2) : ∃ a0 a1, l = [a0, a1] := by
  match l, h with
  | [a0, a1], _ => exact ⟨a0, a1, rfl⟩
theorem list3 {α : Type} {l : List α} (h : l.length = 3) : ∃ a0 a1 a2, l = [a0, a1, a2] := by
  match l, h with
  | [a0, a1, a2], _ => exact ⟨a0, a1, a2, rfl⟩
theorem list4 {α : Type} {l : List α} (h : l.length = 4) : ∃ a0 a1 a2 a3, l = [a0, a1, a2, a3] := by
  match l, h with
  | [a0, a1, a2, a3], _ => exact ⟨a0, a1, a2, a3, rfl⟩
theorem list9 {α : Type} {l : List α} (h : l.length = 9) : ∃ a0 a1 a2 a3 a4 a5 a6 a7 a8, l = [a0, a1, a2, a3, a4, a5, a6, a7, a8] := by
  match l, h with
  | [a0, a1, a2, a3, a4, a5, a6, a7, a8], _ => exact ⟨a0, a1, a2, a3, a4, a5, a6, a7, a8, rfl⟩
theorem array3 {α : Type} {l : Array α} (h : l.size = 3) : ∃ a0 a1 a2, l = #[a0, a1, a2] := by
  obtain ⟨l⟩ := l
  match l, h with
  | [a0, a1, a2], _ => exact ⟨a0, a1, a2, rfl⟩
theorem array6 {α : Type} {l : Array α} (h : l.size = 6) : ∃ a0 a1 a2 a3 a4 a5, l = #[a0, a1, a2, a3, a4, a5] := by
  obtain ⟨l⟩ := l
  match l, h with
  | [a0, a1, a2, a3, a4, a5], _ => exact ⟨a0, a1, a2, a3, a4, a5, rfl⟩
theorem array12 {α : Type} {l : Array α} (h : l.size = 12) : ∃ a0 a1 a2 a3 a4 a5 a6 a7 a8 a9 a10 a11, l = #[a0, a1, a2, a3, a4, a5, a6, a7, a8, a9, a10, a11] := by
  obtain ⟨l⟩ := l
  match l, h with
  | [a0, a1, a2, a3, a4, a5, a6, a7, a8, a9, a10, a11], _ => exact ⟨a0, a1, a2, a3, a4, a5, a6, a7, a8, a9, a10, a11, rfl⟩
/-- Elements, one by one, as a list. -/
theorem list_of {α : Type} {n : Nat} {p : Nat → α → Prop} (h : ∀ i, i < n → ∃ x, p i x) : ∃ l : List α, l.length = n ∧ ∀ i x, l[i]? = some x → p i x := by
  induction n with
  | zero => exact ⟨[], rfl, fun i x hx => by simp at hx⟩
  | succ n ih =>
    obtain ⟨l, hl, hp⟩ := ih fun i hi => h i (by omega)
    obtain ⟨y, hy⟩ := h n (by omega)
    refine ⟨l ++ [y], by simp [hl], fun i x hx => ?_⟩
    by_cases hi : i < n
    · rw [List.getElem?_append_left (by omega)] at hx
      exact hp i x hx
    · rw [List.getElem?_append_right (by omega)] at hx
      have hlt := (List.getElem?_eq_some_iff.1 hx).1
      simp only [List.length_singleton] at hlt
      obtain rfl : i = n := by omega
      rw [hl, Nat.sub_self] at hx
      obtain rfl := Option.some.inj hx
      exact hy

variable {H : Type} {enc : TypeId × Value → H} {w : World} {base : Nat} {spare : Nat → Bool} {held : Bool} {n : Nat} {cs : List Value} {x : DataW H × List MemPlace}
theorem i64_ok {n : Int} (h : (Lit.int .i64 n).wf = true) : I64 n := i64_wf h
theorem action_read (h : DataW.trod enc Tryz.prog w base spare held n 24 cs = some x) : ∃ a : ACT, cs = [.int .i64 a.kind, .int .i64 a.errno] ∧ AcOk a := by
  obtain ⟨f0, f1, hu, ⟨t0, t1⟩, o0, o1⟩ := action_fields
  obtain ⟨xs, m, _, _, hl, hlen, hf⟩ := DataW.trod_struct hu h
  rw [cells_action] at hl
  obtain ⟨a0, a1, rfl⟩ := list2 hl
  have g0 := hf 0 f0 rfl
  have g1 := hf 1 f1 rfl
  have hlt : xs.length = 2 := hlen
  rw [t0, o0, cells_i, List.getElem?_eq_getElem (by omega)] at g0
  rw [t1, o1, cells_i, List.getElem?_eq_getElem (by omega)] at g1
  obtain ⟨s0, q0, _, w0⟩ := DataW.trod_int Tryz.underlying3 g0
  obtain ⟨s1, q1, _, w1⟩ := DataW.trod_int Tryz.underlying3 g1
  simp at q0 q1
  subst q0 q1
  exact ⟨⟨s0, s1⟩, rfl, ⟨i64_ok w0, i64_ok w1⟩⟩
theorem net_read (h : DataW.trod enc Tryz.prog w base spare held n 67 cs = some x) : ∃ a : NT, cs = [.int .u32 a.ip, .int .i64 a.bits, .int .i64 a.lo, .int .i64 a.hi] ∧ NtOk a := by
  obtain ⟨f0, f1, f2, f3, hu, ⟨t0, t1, t2, t3⟩, o0, o1, o2, o3⟩ := net_fields
  obtain ⟨xs, m, _, _, hl, hlen, hf⟩ := DataW.trod_struct hu h
  rw [cells_net] at hl
  obtain ⟨a0, a1, a2, a3, rfl⟩ := list4 hl
  have g0 := hf 0 f0 rfl
  have g1 := hf 1 f1 rfl
  have g2 := hf 2 f2 rfl
  have g3 := hf 3 f3 rfl
  have hlt : xs.length = 4 := hlen
  rw [t0, o0, cells_32, List.getElem?_eq_getElem (by omega)] at g0
  rw [t1, o1, cells_i, List.getElem?_eq_getElem (by omega)] at g1
  rw [t2, o2, cells_i, List.getElem?_eq_getElem (by omega)] at g2
  rw [t3, o3, cells_i, List.getElem?_eq_getElem (by omega)] at g3
  obtain ⟨s0, q0, _, w0⟩ := DataW.trod_int Tryz.underlying27 g0
  obtain ⟨s1, q1, _, w1⟩ := DataW.trod_int Tryz.underlying3 g1
  obtain ⟨s2, q2, _, w2⟩ := DataW.trod_int Tryz.underlying3 g2
  obtain ⟨s3, q3, _, w3⟩ := DataW.trod_int Tryz.underlying3 g3
  simp at q0 q1 q2 q3
  obtain ⟨k0, rfl, h0⟩ := u32_wf w0
  subst q0 q1 q2 q3
  exact ⟨⟨k0, s1, s2, s3⟩, rfl, ⟨h0, i64_ok w1, i64_ok w2, i64_ok w3⟩⟩
theorem cond_read (h : DataW.trod enc Tryz.prog w base spare held n 69 cs = some x) :
    ∃ c : CD, cs = [.int .i64 c.arg, .int .i64 c.op, .int .u64 c.v, .int .u64 c.m, .string c.glob, .int .u32 c.net.ip, .int .i64 c.net.bits, .int .i64 c.net.lo, .int .i64 c.net.hi] ∧ CdOk c := by
  obtain ⟨f0, f1, f2, f3, f4, f5, hu, ⟨t0, t1, t2, t3, t4, t5⟩, o0, o1, o2, o3, o4, o5⟩ := cond_fields
  obtain ⟨xs, m, _, _, hl, hlen, hf⟩ := DataW.trod_struct hu h
  rw [cells_cond] at hl
  obtain ⟨a0, a1, a2, a3, a4, a5, a6, a7, a8, rfl⟩ := list9 hl
  have g0 := hf 0 f0 rfl
  have g1 := hf 1 f1 rfl
  have g2 := hf 2 f2 rfl
  have g3 := hf 3 f3 rfl
  have g4 := hf 4 f4 rfl
  have g5 := hf 5 f5 rfl
  have hlt : xs.length = 6 := hlen
  rw [t0, o0, cells_i, List.getElem?_eq_getElem (by omega)] at g0
  rw [t1, o1, cells_i, List.getElem?_eq_getElem (by omega)] at g1
  rw [t2, o2, cells_64, List.getElem?_eq_getElem (by omega)] at g2
  rw [t3, o3, cells_64, List.getElem?_eq_getElem (by omega)] at g3
  rw [t4, o4, cells_s, List.getElem?_eq_getElem (by omega)] at g4
  rw [t5, o5, cells_net, List.getElem?_eq_getElem (by omega)] at g5
  obtain ⟨nt, q5, hnt⟩ := net_read g5
  obtain ⟨s0, q0, _, w0⟩ := DataW.trod_int Tryz.underlying3 g0
  obtain ⟨s1, q1, _, w1⟩ := DataW.trod_int Tryz.underlying3 g1
  obtain ⟨s2, q2, _, w2⟩ := DataW.trod_int Tryz.underlying28 g2
  obtain ⟨s3, q3, _, w3⟩ := DataW.trod_int Tryz.underlying28 g3
  obtain ⟨s4, q4, _, _⟩ := DataW.trod_string Tryz.underlying9 g4
  simp at q0 q1 q2 q3 q4 q5
  obtain ⟨k2, rfl, h2⟩ := u64_wf w2
  obtain ⟨k3, rfl, h3⟩ := u64_wf w3
  obtain ⟨q5, q6, q7, q8⟩ := q5
  subst q0 q1 q2 q3 q4 q5 q6 q7 q8
  exact ⟨⟨s0, s1, k2, k3, s4, nt⟩, rfl, ⟨i64_ok w0, i64_ok w1, h2, h3, hnt⟩⟩

set_option maxRecDepth 100000 in
theorem conds_read {W : World} (h : DataW.trod enc Tryz.prog W 0 (fun _ => true) true n 63 cs = some x) :
    ∃ (oa : Option Addr) (l : List CD) (cap : Nat), cs = [.slice oa l.length cap] ∧ l.length ≤ cap ∧ cap ≤ maxLen ∧ IsConds oa l W ∧ ∀ c ∈ l, CdOk c := by
  rcases Go.Deep.open_slice Tryz.underlying63 h with ⟨rfl, _⟩ | ⟨a, len, cap, m, fu, D, Pl, rfl, _, hl, hm, hmm, _, hx⟩
  · exact ⟨none, [], 0, rfl, Nat.le_refl _, Nat.zero_le _, IsConds.nil _ _, fun c hc => by simp at hc⟩
  · rw [if_pos rfl] at hmm
    subst hmm
    rw [cells_cond] at hx
    obtain ⟨l, hll, hp⟩ := list_of (n := len) (p := fun i (c : CD) => ∃ cs', W.cells? 0 (a.add (i * 9)) 9 = some cs' ∧ cs' = [.int .i64 c.arg, .int .i64 c.op, .int .u64 c.v, .int .u64 c.m, .string c.glob, .int .u32 c.net.ip, .int .i64 c.net.bits, .int .i64 c.net.lo, .int .i64 c.net.hi] ∧ CdOk c) fun i hi => by
      obtain ⟨cs', h1, h2⟩ := hx i (by omega)
      obtain ⟨c, h3, h4⟩ := cond_read h2
      exact ⟨c, cs', h1, h3, h4⟩
    subst hll
    refine ⟨some a, l, m, rfl, hl, hm, ⟨fun h0 => ?_⟩, fun c hc => ?_⟩
    · obtain ⟨b, off, spot⟩ := a
      obtain ⟨cs0, k1, k2, _⟩ := hp 0 l[0] (List.getElem?_eq_getElem h0)
      have hc0 := (World.cells?_some k1).2.2 0 (by omega)
      rw [k2] at hc0
      have hspot : spot = none := by simpa [Addr.add] using World.cell?_spot hc0
      subst hspot
      refine ⟨b, off, rfl, World.cells?_block (by rw [Nat.zero_mul] at k1; simpa [Addr.add] using k1) (by omega : 0 < 9), fun i c hi => ?_⟩
      obtain ⟨cs', k1, rfl, k3⟩ := hp i c hi
      exact ⟨elem_cells k1 0 (by omega), elem_cells k1 1 (by omega), elem_cells k1 2 (by omega), elem_cells k1 3 (by omega), elem_cells k1 4 (by omega), elem_cells k1 5 (by omega), elem_cells k1 6 (by omega), elem_cells k1 7 (by omega), elem_cells k1 8 (by omega), k3⟩
    · obtain ⟨i, hi, rfl⟩ := List.mem_iff_getElem.1 hc
      obtain ⟨_, _, _, k3⟩ := hp i _ (List.getElem?_eq_getElem hi)
      exact k3
theorem rule_read {W : World} (h : DataW.trod enc Tryz.prog W 0 (fun _ => true) true n 65 cs = some x) :
    ∃ (r : RL) (oa : Option Addr) (cap : Nat), cs = [.int .i64 r.nr, .slice oa r.conds.length cap, .int .i64 r.act.kind, .int .i64 r.act.errno] ∧ r.conds.length ≤ cap ∧ cap ≤ maxLen ∧ IsConds oa r.conds W ∧ RlOk r := by
  obtain ⟨f0, f1, f2, hu, ⟨t0, t1, t2⟩, o0, o1, o2⟩ := rule_fields
  obtain ⟨xs, m, _, _, hl, hlen, hf⟩ := DataW.trod_struct hu h
  rw [cells_rule] at hl
  obtain ⟨a0, a1, a2, a3, rfl⟩ := list4 hl
  have g0 := hf 0 f0 rfl
  have g1 := hf 1 f1 rfl
  have g2 := hf 2 f2 rfl
  have hlt : xs.length = 3 := hlen
  rw [t0, o0, cells_i, List.getElem?_eq_getElem (by omega)] at g0
  rw [t1, o1, cells_conds, List.getElem?_eq_getElem (by omega)] at g1
  rw [t2, o2, cells_action, List.getElem?_eq_getElem (by omega)] at g2
  obtain ⟨s0, q0, _, w0⟩ := DataW.trod_int Tryz.underlying3 g0
  obtain ⟨oa, l, cap, q1, hlc, hcm, hic, hok⟩ := conds_read g1
  obtain ⟨ac, q2, hac⟩ := action_read g2
  simp at q0 q1 q2
  obtain ⟨q2, q3⟩ := q2
  subst q0 q1 q2 q3
  exact ⟨⟨s0, l, ac⟩, oa, cap, rfl, hlc, hcm, hic, ⟨i64_ok w0, hok, hac⟩⟩

set_option maxRecDepth 100000 in
theorem rules_read {W : World} (h : DataW.trod enc Tryz.prog W 0 (fun _ => true) true n 22 cs = some x) :
    ∃ (oa : Option Addr) (l : List RL) (cap : Nat), cs = [.slice oa l.length cap] ∧ l.length ≤ cap ∧ cap ≤ maxLen ∧ IsRules oa l W ∧ ∀ r ∈ l, RlOk r := by
  rcases Go.Deep.open_slice Tryz.underlying22 h with ⟨rfl, _⟩ | ⟨a, len, cap, m, fu, D, Pl, rfl, _, hl, hm, hmm, _, hx⟩
  · exact ⟨none, [], 0, rfl, Nat.le_refl _, Nat.zero_le _, IsRules.nil _ _, fun c hc => by simp at hc⟩
  · rw [if_pos rfl] at hmm
    subst hmm
    rw [cells_rule] at hx
    obtain ⟨l, hll, hp⟩ := list_of (n := len) (p := fun i (r : RL) => ∃ cs', W.cells? 0 (a.add (i * 4)) 4 = some cs' ∧ ∃ (oa : Option Addr) (cap : Nat), cs' = [.int .i64 r.nr, .slice oa r.conds.length cap, .int .i64 r.act.kind, .int .i64 r.act.errno] ∧ r.conds.length ≤ cap ∧ cap ≤ maxLen ∧ IsConds oa r.conds W ∧ RlOk r) fun i hi => by
      obtain ⟨cs', h1, h2⟩ := hx i (by omega)
      obtain ⟨r, oa, cap, h3, h4⟩ := rule_read h2
      exact ⟨r, cs', h1, oa, cap, h3, h4⟩
    subst hll
    refine ⟨some a, l, m, rfl, hl, hm, ⟨fun h0 => ?_⟩, fun c hc => ?_⟩
    · obtain ⟨b, off, spot⟩ := a
      obtain ⟨cs0, k1, _, _, k2, _⟩ := hp 0 l[0] (List.getElem?_eq_getElem h0)
      have hc0 := (World.cells?_some k1).2.2 0 (by omega)
      rw [k2] at hc0
      have hspot : spot = none := by simpa [Addr.add] using World.cell?_spot hc0
      subst hspot
      refine ⟨b, off, rfl, World.cells?_block (by rw [Nat.zero_mul] at k1; simpa [Addr.add] using k1) (by omega : 0 < 4), fun i c hi => ?_⟩
      obtain ⟨cs', k1, oa, cc, rfl, k3, k4, k5, k6⟩ := hp i c hi
      exact ⟨oa, cc, elem_cells k1 0 (by omega), elem_cells k1 1 (by omega), elem_cells k1 2 (by omega), elem_cells k1 3 (by omega), k5, k3, k4, k6⟩
    · obtain ⟨i, hi, rfl⟩ := List.mem_iff_getElem.1 hc
      obtain ⟨_, _, _, _, _, _, _, _, k6⟩ := hp i _ (List.getElem?_eq_getElem hi)
      exact k6

set_option maxRecDepth 100000 in
/-- A policy that came in, opened. -/
theorem open_pol {W : World} {v : Value} {d : DataW H} {p : List MemPlace} {r : Reach} {b0 : Nat} (hv : Value.okWide Tryz.prog W r b0 26 v) (h : DataW.Trod enc Tryz.prog W 0 (fun _ => true) true 26 v d p) :
    ∃ (q : POL) (oa : Option Addr) (cap : Nat), v = polV q oa cap ∧ IsPol oa cap q W := by
  obtain ⟨f0, f1, hu, ⟨t0, t1⟩, o0, o1⟩ := pol_fields
  obtain ⟨cs, rfl, hsz⟩ := okWide_struct hu hv
  obtain ⟨a0, a1, a2, rfl⟩ := array3 (hsz.trans cells_pol)
  obtain ⟨fuel, hf⟩ := h
  obtain ⟨xs, m, _, _, hl, hlen, hf⟩ := DataW.trod_struct hu hf
  have g0 := hf 0 f0 rfl
  have g1 := hf 1 f1 rfl
  have hlt : xs.length = 2 := hlen
  rw [t0, o0, cells_rules, List.getElem?_eq_getElem (by omega)] at g0
  rw [t1, o1, cells_action, List.getElem?_eq_getElem (by omega)] at g1
  obtain ⟨oa, l, cap, q0, hlc, hcm, hir, hok⟩ := rules_read g0
  obtain ⟨ac, q1, hac⟩ := action_read g1
  simp [Value.cells] at q0 q1
  obtain ⟨q1, q2⟩ := q1
  subst q0 q1 q2
  exact ⟨⟨l, ac⟩, oa, cap, rfl, ⟨hir, hlc, hcm, ⟨hok, hac⟩⟩⟩

set_option maxRecDepth 100000 in
/-- A call that came in, opened. -/
theorem open_call {W : World} {v : Value} {d : DataW H} {p : List MemPlace} {r : Reach} {b0 : Nat} (hv : Value.okWide Tryz.prog W r b0 31 v) (h : DataW.Trod enc Tryz.prog W base spare held 31 v d p) :
    ∃ c : KL, v = klV c ∧ KlOk c := by
  obtain ⟨f0, f1, f2, hu, ⟨t0, t1, t2⟩, o0, o1, o2⟩ := call_fields
  obtain ⟨cs, rfl, hsz⟩ := okWide_struct hu hv
  obtain ⟨a0, a1, a2, a3, a4, a5, rfl⟩ := array6 (hsz.trans cells_call)
  obtain ⟨fuel, hf⟩ := h
  obtain ⟨xs, m, _, _, hl, hlen, hf⟩ := DataW.trod_struct hu hf
  have g0 := hf 0 f0 rfl
  have g1 := hf 1 f1 rfl
  have g2 := hf 2 f2 rfl
  have hlt : xs.length = 3 := hlen
  rw [t0, o0, cells_32, List.getElem?_eq_getElem (by omega)] at g0
  rw [t1, o1, cells_32, List.getElem?_eq_getElem (by omega)] at g1
  rw [t2, o2, cells_arr4, List.getElem?_eq_getElem (by omega)] at g2
  obtain ⟨s0, q0, _, w0⟩ := DataW.trod_int Tryz.underlying27 g0
  obtain ⟨s1, q1, _, w1⟩ := DataW.trod_int Tryz.underlying27 g1
  obtain ⟨ys, m', _, _, _, hyl, hy⟩ := DataW.trod_array Tryz.underlying29 g2
  have y0 := hy 0 (by omega)
  have y1 := hy 1 (by omega)
  have y2 := hy 2 (by omega)
  have y3 := hy 3 (by omega)
  rw [cells_64, List.getElem?_eq_getElem (by omega)] at y0 y1 y2 y3
  obtain ⟨s2, q2, _, w2⟩ := DataW.trod_int Tryz.underlying28 y0
  obtain ⟨s3, q3, _, w3⟩ := DataW.trod_int Tryz.underlying28 y1
  obtain ⟨s4, q4, _, w4⟩ := DataW.trod_int Tryz.underlying28 y2
  obtain ⟨s5, q5, _, w5⟩ := DataW.trod_int Tryz.underlying28 y3
  simp [Value.cells] at q0 q1 q2 q3 q4 q5
  obtain ⟨k0, rfl, h0⟩ := u32_wf w0
  obtain ⟨k1, rfl, h1⟩ := u32_wf w1
  obtain ⟨k2, rfl, h2⟩ := u64_wf w2
  obtain ⟨k3, rfl, h3⟩ := u64_wf w3
  obtain ⟨k4, rfl, h4⟩ := u64_wf w4
  obtain ⟨k5, rfl, h5⟩ := u64_wf w5
  subst q0 q1 q2 q3 q4 q5
  exact ⟨⟨k0, k1, k2, k3, k4, k5⟩, rfl, ⟨h0, h1, h2, h3, h4, h5⟩⟩

theorem value_read (h : DataW.trod enc Tryz.prog w base spare held n 33 cs = some x) : ∃ y : VL, cs = [.string y.path, .int .u32 y.ip, .int .i64 y.port] ∧ y.path.size ≤ maxLen ∧ y.ip < 4294967296 ∧ I64 y.port := by
  obtain ⟨f0, f1, f2, hu, ⟨t0, t1, t2⟩, o0, o1, o2⟩ := value_fields
  obtain ⟨xs, m, _, _, hl, hlen, hf⟩ := DataW.trod_struct hu h
  rw [cells_value] at hl
  obtain ⟨a0, a1, a2, rfl⟩ := list3 hl
  have g0 := hf 0 f0 rfl
  have g1 := hf 1 f1 rfl
  have g2 := hf 2 f2 rfl
  have hlt : xs.length = 3 := hlen
  rw [t0, o0, cells_s, List.getElem?_eq_getElem (by omega)] at g0
  rw [t1, o1, cells_32, List.getElem?_eq_getElem (by omega)] at g1
  rw [t2, o2, cells_i, List.getElem?_eq_getElem (by omega)] at g2
  obtain ⟨s0, q0, _, w0⟩ := DataW.trod_string Tryz.underlying9 g0
  obtain ⟨s1, q1, _, w1⟩ := DataW.trod_int Tryz.underlying27 g1
  obtain ⟨s2, q2, _, w2⟩ := DataW.trod_int Tryz.underlying3 g2
  simp at q0 q1 q2
  obtain ⟨k1, rfl, h1⟩ := u32_wf w1
  subst q0 q1 q2
  exact ⟨⟨s0, k1, s2⟩, rfl, w0, h1, i64_ok w2⟩
theorem okWide_arr {P : Program} {w : World} {r : Reach} {base : Nat} {t : TypeId} {v : Value} {n : Nat} {e : TypeId} (ht : P.underlying t = some (.array n e)) (h : Value.okWide P w r base t v) : ∃ cs, v = .agg cs ∧ cs.size = P.cellsOf t := by
  simp only [Value.okWide, ht] at h
  obtain ⟨cs, h1, h2, _⟩ := h
  exact ⟨cs, h1, h2⟩
/-- What is known of values that come in. -/
def VsIn (v : VS) : Prop := ∀ i, i ≤ 3 → (v.at i).path.size ≤ maxLen ∧ (v.at i).ip < 4294967296 ∧ I64 (v.at i).port
set_option maxRecDepth 100000 in
/-- Values that came in, opened. -/
theorem open_vals {W : World} {v : Value} {d : DataW H} {p : List MemPlace} {r : Reach} {b0 : Nat} (hv : Value.okWide Tryz.prog W r b0 35 v) (h : DataW.Trod enc Tryz.prog W base spare held 35 v d p) :
    ∃ c : VS, v = vsV c ∧ VsIn c := by
  obtain ⟨cs, rfl, hsz⟩ := okWide_arr Tryz.underlying35 hv
  obtain ⟨a0, a1, a2, a3, a4, a5, a6, a7, a8, a9, a10, a11, rfl⟩ := array12 (hsz.trans cells_vals)
  obtain ⟨fuel, hf⟩ := h
  obtain ⟨ys, m', _, _, _, hyl, hy⟩ := DataW.trod_array Tryz.underlying35 hf
  have y0 := hy 0 (by omega)
  have y1 := hy 1 (by omega)
  have y2 := hy 2 (by omega)
  have y3 := hy 3 (by omega)
  rw [cells_value, List.getElem?_eq_getElem (by omega)] at y0 y1 y2 y3
  obtain ⟨v0, q0, h0⟩ := value_read y0
  obtain ⟨v1, q1, h1⟩ := value_read y1
  obtain ⟨v2, q2, h2⟩ := value_read y2
  obtain ⟨v3, q3, h3⟩ := value_read y3
  simp [Value.cells] at q0 q1 q2 q3
  obtain ⟨q0, q4, q5⟩ := q0
  obtain ⟨q1, q6, q7⟩ := q1
  obtain ⟨q2, q8, q9⟩ := q2
  obtain ⟨q3, q10, q11⟩ := q3
  subst q0 q1 q2 q3 q4 q5 q6 q7 q8 q9 q10 q11
  refine ⟨⟨v0, v1, v2, v3⟩, rfl, fun i hi => ?_⟩
  rcases (by omega : i = 0 ∨ i = 1 ∨ i = 2 ∨ i = 3) with rfl | rfl | rfl | rfl
  · exact h0
  · exact h1
  · exact h2
  · exact h3
end Go.Proofs.YtkogafponpjdnaaGreatDoor

/- What the tables that the program's text lays give: the library's variables; the last wrap, the world's shape kept. -/
namespace Go.Proofs.YtkogafponpjdnaaGreatDoor
open Go.ChangeShapes Go.WideShapes Go.ChangeAt Go.WideMaps Go.WideElems Go.RowKit

set_option maxRecDepth 100000 in
/-- A wrap that hands the contract both the row's condition and the world's shape. -/
theorem lift_shaped {H : Type} {enc : TypeId × Value → H} {os : Os} {f : FuncId} {fn : Func} {s : ChangeSpec} {X : World → Prop} (hX : ∀ w w' : World, w.heap = w'.heap → X w → X w') (started : os.Started) (noInit : Tryz.checked.prog.inits.idxOf? f = none) (hfn : Tryz.checked.prog.funcs[f]? = some fn)
    (witness : ∃ (w : World) (tape : Tape) (i : Input), w.os = os ∧ (w.forCall tape i).Shaped Tryz.checked.prog ∧ i.vars = [] ∧ Input.okWide Tryz.checked.prog (w.forCall tape i) .any w.heap.size f i ∧
      ((s.pre enc Tryz.checked.prog fn [] false (w.forCall tape i).memory i.args ∧ X (w.forCall tape i).memory) ∧ sizedMet enc Tryz.checked.prog fn (OpenSpec.ofChange s) false (w.forCall tape i).memory i.args) ∧ Assume.holds {} Tryz.checked.prog (lone (Frame.enter Tryz.checked.prog f i.args .normal) [] (w.forCall tape i)))
    (contract : ∀ (W : World) (base : Nat) (args : Array Value) (ds gs : List (DataW H)) (before : List MemPlace),
      (∀ (j : Nat) t v, fn.params[j]? = some t → args[j]? = some v → Value.okWide Tryz.checked.prog W .any base t v) → DataW.Whole enc Tryz.checked.prog fn.params.toList s.vars false W args.toList ds gs before → X W → W.ShapedOpen Tryz.checked.prog →
      Calls Tryz.checked.prog f args W fun e W' => ∃ v, e = .returned v ∧ s.post enc Tryz.checked.prog fn false true false false W args v W') :
    ReturnsInHanded {} Tryz.checked os f .any (fun w args => (s.pre enc Tryz.checked.prog fn [] false w args ∧ X w) ∧ sizedMet enc Tryz.checked.prog fn (OpenSpec.ofChange s) false w args) (s.post enc Tryz.checked.prog fn false true false false) := by
  refine returnsInHanded_of_calls own started noInit witness fun w tape i _ hsh _ hok hpre _ => ?_
  obtain ⟨_, _, _, fn', hfn', _, _, _, _, hval⟩ := hok
  obtain rfl : fn' = fn := Option.some.inj (hfn'.symm.trans hfn)
  obtain ⟨⟨⟨ds, gs, before, hw, _⟩, hx⟩, _⟩ := hpre
  refine (contract (w.forCall tape i) w.heap.size i.args ds gs before hval (DataW.Whole.of_heap (w' := w.forCall tape i) (by rfl) hw) (hX _ _ (by rfl) hx) hsh).mono fun e W' ⟨v, he, hp⟩ => ?_
  subst he
  exact ChangeSpec.post_blind hp

theorem err_of {W : World} {nm : String} {g : Nat} {d : DataW Unit} {rest : List (String × DataW Unit)} (hg : Tryz.prog.globalNamed nm = some g) (ht : (Tryz.prog.globals[g]?).map (·.type) = some 42) (h : laidMet Tryz.prog ((nm, .iface "*errors.errorString" d) :: rest) W) :
    ∃ ev, W.cell? ⟨g, 0, none⟩ = some ev ∧ (ev = .nilIface ∨ ∃ te pe, ev = .iface te pe) := by
  obtain ⟨ps, ⟨g', t', cs, fuel, p, q, hg', ht', hvar, hd, _, _⟩, _⟩ := h
  obtain rfl := Option.some.inj (hg.symm.trans hg')
  obtain rfl := Option.some.inj (ht.symm.trans ht')
  obtain ⟨l⟩ := cs
  obtain ⟨f1, u, v, hl, _, _⟩ := iface_of_trod Tryz.underlying42 hd
  have hc := World.var?_cell hg' hvar 0
  simp only at hl
  subst hl
  exact ⟨.iface u v, hc, .inr ⟨u, v, rfl⟩⟩

theorem sign_of {W : World} {rest : List (String × DataW Unit)} (h : laidMet Tryz.prog (("doorward/policy.signs", Rows.laid_doorward_policy_signs) :: rest) W) : ∀ i, i < 9 → W.cell? ⟨0, i, none⟩ = some (.string (bs (signW.getD i []))) := by
  obtain ⟨ps, ⟨g', t', cs, fuel, p, q, hg', ht', hvar, hd, _, _⟩, _⟩ := h
  obtain rfl := Option.some.inj ((show Tryz.prog.globalNamed "doorward/policy.signs" = some 0 by kernel_rfl).symm.trans hg')
  obtain rfl := Option.some.inj ((show (Tryz.prog.globals[0]?).map (·.type) = some 81 by kernel_rfl).symm.trans ht')
  obtain ⟨xs, m, _, hx, _, hl, hy⟩ := DataW.trod_array Tryz.underlying81 hd
  have hm : xs.map (·.1) = signW.map fun x => DataW.lit (.string x) := (DataW.agg.inj (congrArg Prod.fst hx)).symm
  intro i hi
  have hi' := hy i hi
  rw [cells_s, List.getElem?_eq_getElem (by omega)] at hi'
  obtain ⟨s, hs, hxs, _⟩ := DataW.trod_string Tryz.underlying9 hi'
  have h1 : (xs.map (·.1))[i]? = some (.lit (.string s.data.toList)) := by rw [List.getElem?_map, List.getElem?_eq_getElem (by omega), hxs]; rfl
  rw [hm, List.getElem?_map] at h1
  obtain ⟨y, hy1, hy2⟩ := Option.map_eq_some_iff.1 h1
  have hys : y = s.data.toList := by injection hy2 with h2; injection h2
  rw [World.var?_cell hg' hvar i, List.getD_eq_getElem?_getD, hy1, Option.getD_some, hys, bs_of]
  have h2 := congrArg (·[0]?) hs
  simpa [List.getElem?_take, List.getElem?_drop] using h2

/-- The library's variables, out of the row's condition and the world's shape. -/
theorem ev_of {W : World} {laid : List (String × DataW Unit)} (h : laidMetH Tryz.prog laid W) (hp : (laid.filter fun x => x.2.handleName?.isSome) = [])
    (hl : ∃ rest, laid = ("math/bits.deBruijn32tab", Rows.laid_math_bits_deBruijn32tab) :: ("math/bits.deBruijn64tab", Rows.laid_math_bits_deBruijn64tab) :: ("internal/strconv.uint64pow10", Rows.laid_internal_strconv_uint64pow10) :: ("unicode/utf8.acceptRanges", Rows.laid_unicode_utf8_acceptRanges) :: ("strconv.ErrRange", Rows.laid_strconv_ErrRange) :: ("strconv.ErrSyntax", Rows.laid_strconv_ErrSyntax) :: ("doorward/policy.signs", Rows.laid_doorward_policy_signs) :: rest)
    (hs : W.ShapedOpen Tryz.prog) : EV W := by
  have h0 : laidMet Tryz.prog laid W := by
    unfold laidMetH at h
    rw [hp] at h
    exact h
  obtain ⟨rest, rfl⟩ := hl
  have h2 := laidMet.tail (laidMet.tail h0)
  have h4 := laidMet.tail (laidMet.tail h2)
  have h5 := laidMet.tail h4
  have h6 := laidMet.tail h5
  refine ⟨?_, sign_of h6, ?_, err_of (nm := "strconv.ErrSyntax") (g := 5) (by kernel_rfl) (by kernel_rfl) h5, err_of (nm := "strconv.ErrRange") (g := 6) (by kernel_rfl) (by kernel_rfl) h4⟩
  · exact Lib.tabIs_of_head (zs := Lib.pow10Tab) (g := (Tryz.prog.globalNamed "internal/strconv.uint64pow10").get!) (t := 196) (e := 28) (n := 20) (by kernel_rfl) (by kernel_rfl) (by kernel_rfl) (by kernel_rfl) (by kernel_rfl) (by kernel_rfl) h2
  · exact cell_of_shapedOpen_int (t := 3) (zero := #[.int .i64 0]) hs (of_decide_eq_true (by kernel_rfl)) (by kernel_rfl) rfl (by kernel_rfl) (by kernel_rfl) Tryz.underlying3
end Go.Proofs.YtkogafponpjdnaaGreatDoor

/- LightPolicy, LightValues. -/
namespace Go.Proofs.YtkogafponpjdnaaGreatDoor
open Go.RowKit Go.Sort

def lightC (c : CD) : Bool := decide (c.glob.size ≤ 60)
def lightR (r : RL) : Bool := decide (r.conds.length ≤ 6) && r.conds.all lightC
def lightB (p : POL) : Bool := decide (p.rules.length ≤ 14) && p.rules.all lightR
def lightVL (v : VL) : Bool := decide (v.path.size ≤ 100)
def lightTo (v : VS) : Nat → Bool
  | 0 => true
  | i + 1 => lightTo v i && lightVL (v.at i)
def lightV (v : VS) : Bool := lightTo v 4
theorem lightTo_false {v : VS} {i : Nat} (h : lightTo v i = false) : ∀ k, lightTo v (i + k) = false
  | 0 => h
  | k + 1 => by rw [← Nat.add_assoc, lightTo, lightTo_false h k, Bool.false_and]

set_option maxHeartbeats 4000000 in
theorem lightPol_any (p : POL) (oa : Option Addr) (cap : Nat) (w : World) (h : IsPol oa cap p w) :
    Calls Tryz.prog 6 #[polV p oa cap] w fun e w' => e = .returned (.bool (lightB p)) ∧ Below w.heap.size w w' := by
  obtain ⟨n, hn⟩ : ∃ n, n = p.rules.length := ⟨_, rfl⟩
  have HC := hide (pol_parts h n hn)
  have hmax : n ≤ 9223372036854775807 := by have h1 := h.le; have h2 := h.cap; unfold maxLen at h2; omega
  clear h
  obtain ⟨rs, ⟨ak, ae⟩⟩ := p
  unfold polV
  simp only at HC hn ⊢
  rw [← hn]
  have HZ := hide (show lightB ⟨rs, ⟨ak, ae⟩⟩ = (decide (n ≤ 14) && rs.all lightR) by rw [hn]; rfl)
  obtain ⟨z, hz⟩ : ∃ z, z = lightB ⟨rs, ⟨ak, ae⟩⟩ := ⟨_, rfl⟩
  rw [← hz] at HZ ⊢
  have HN := hide hn
  have HL := hide (show ∀ i, i < n → ∃ c, rs[i]? = some c ∧ rs.take (i + 1) = rs.take i ++ [c] from fun i h => take_next (by omega))
  clear hn hz
  obtain ⟨V, hV, hB, hsz, hx⟩ := one_box w #[.slice oa n cap, .int .i64 ak, .int .i64 ae] 26
  have x0 := hx 0
  simp only [List.getElem?_toArray, List.getElem?_cons_zero] at x0
  clear hx
  by_cases h14 : 14 < n
  · have HF := hide (show z = false by rw [HZ.out, decide_eq_false (by omega), Bool.false_and])
    go_enter Tryz.func6, Tryz.ntmps6
    go_wp2
    go_ret
    exact ⟨ret_bool HF.out.symm, box_below _ _⟩
  have HZ2 := hide (show z = rs.all lightR by rw [HZ.out, decide_eq_true (by omega), Bool.true_and])
  clear HZ
  go_enter Tryz.func6, Tryz.ntmps6
  go_wp2
  rw [← hV]
  clear hV
  go_loopw [3] (fun I w' => ∃ i : Nat, i ≤ n ∧ I = .int .i64 i ∧ Hid ((rs.take i).all lightR = true) ∧ w' = V) (fun I _ => n - (intOf I).toNat)
  case atStart => exact ⟨0, by omega, rfl, hide rfl, rfl⟩
  case round =>
    obtain ⟨i, hi, rfl, HG, hwr⟩ := hrel
    replace hwr := hwr.symm
    subst hwr
    by_cases hlt : i < n
    · obtain ⟨c, hcs, hcat⟩ := HL.out i hlt
      obtain ⟨b, off, rfl, hbw, HA⟩ := HC.out (by omega)
      obtain ⟨ca, cc, hR0⟩ := HA.out i c hcs
      have hR := hR0.on hbw hB
      clear hR0
      have k1 := hR.k1
      have HQ := hide (all_take_snoc (f := lightR) hcat HG.out)
      obtain ⟨m, hm⟩ : ∃ m, m = c.conds.length := ⟨_, rfl⟩
      rw [← hm] at k1
      have HCC := hide (conds_parts hR.conds m hm)
      have hmm : m ≤ 9223372036854775807 := by have h1 := hR.le; have h2 := hR.cap; unfold maxLen at h2; omega
      have HLR := hide (show lightR c = (decide (m ≤ 6) && c.conds.all lightC) by rw [hm]; rfl)
      have HCL := hide (show ∀ j, j < m → ∃ x, c.conds[j]? = some x ∧ c.conds.take (j + 1) = c.conds.take j ++ [x] from fun j h => take_next (by omega))
      have HM := hide hm
      clear hm hR hcs hcat
      by_cases h6 : 6 < m
      · have HF := hide (show z = false by
          rw [HZ2.out]
          refine all_take_false (i := i + 1) ?_
          rw [HQ.out, HLR.out, decide_eq_false (by omega), Bool.false_and])
        go_wp2
        go_ret
        exact ⟨ret_bool HF.out.symm, hB⟩
      have HLR2 := hide (show lightR c = c.conds.all lightC by rw [HLR.out, decide_eq_true (by omega), Bool.true_and])
      clear HLR
      go_wp2
      go_loopw [4] (fun J w' => ∃ j : Nat, j ≤ m ∧ J = .int .i64 j ∧ Hid ((c.conds.take j).all lightC = true) ∧ w' = V) (fun J _ => m - (intOf J).toNat)
      case atStart => exact ⟨0, by omega, rfl, hide rfl, rfl⟩
      case round =>
        obtain ⟨j, hj, rfl, HGJ, hwr⟩ := hrel
        replace hwr := hwr.symm
        subst hwr
        by_cases hjl : j < m
        · obtain ⟨x, hxs, hxcat⟩ := HCL.out j hjl
          obtain ⟨b2, off2, rfl, hbw2, HA2⟩ := HCC.out (by omega)
          have k4 := (HA2.out j x hxs).k4
          have HQ2 := hide (all_take_snoc (f := lightC) hxcat HGJ.out)
          have HLC := hide (show lightC x = decide (x.glob.size ≤ 60) from rfl)
          obtain ⟨gl, hgl⟩ : ∃ g, g = x.glob := ⟨_, rfl⟩
          rw [← hgl] at k4 HLC
          clear hgl hxs hxcat
          by_cases h60 : 60 < gl.size
          · have HF := hide (show z = false by
              rw [HZ2.out]
              refine all_take_false (i := i + 1) ?_
              rw [HQ.out, HLR2.out]
              refine all_take_false (i := j + 1) ?_
              rw [HQ2.out, HLC.out, decide_eq_false (by omega)])
            go_wp2
            go_ret
            exact ⟨ret_bool HF.out.symm, hB⟩
          · replace HQ2 := hide (show (c.conds.take (j + 1)).all lightC = true by rw [HQ2.out, HLC.out, decide_eq_true (by omega)])
            go_wp2
            go_round
            case rel => exact ⟨j + 1, by omega, by go_num, HQ2, trivial⟩
            case measure => simp [intOf]; omega
        · obtain rfl : j = m := by omega
          have HQ3 := hide (show (rs.take (i + 1)).all lightR = true by
            rw [HQ.out, HLR2.out]
            have := HGJ.out
            rwa [List.take_of_length_le (by rw [HM.out]; exact Nat.le_refl _)] at this)
          go_wp2
          go_round
          case rel => exact ⟨i + 1, by omega, by go_num, HQ3, trivial⟩
          case measure => simp [intOf]; omega
    · obtain rfl : i = n := by omega
      have HF := hide (show z = true by
        have := HG.out
        rw [List.take_of_length_le (by rw [HN.out]; exact Nat.le_refl _)] at this
        rw [HZ2.out, this])
      go_wp2
      go_ret
      exact ⟨ret_bool HF.out.symm, hB⟩

set_option maxHeartbeats 1000000 in
theorem lightVals_any (v : VS) (w : World) : Calls Tryz.prog 7 #[vsV v] w fun e w' => e = .returned (.bool (lightV v)) ∧ Below w.heap.size w w' := by
  obtain ⟨vc, hvc⟩ : ∃ c, c = vsC v := ⟨_, rfl⟩
  have hvs : vc.size = 12 := by rw [hvc]; rfl
  unfold vsV
  rw [← hvc]
  have HVC := hide hvc
  clear hvc
  obtain ⟨V, hV, hB, hsz, hx⟩ := one_box w vc 35
  have HX := hide hx
  clear hx
  obtain ⟨z, hz⟩ : ∃ z, z = lightV v := ⟨_, rfl⟩
  have HZ := hide hz
  rw [← hz]
  clear hz
  go_enter Tryz.func7, Tryz.ntmps7
  go_wp2
  rw [← hV]
  clear hV
  go_loopw [3] (fun I w' => ∃ i : Nat, i ≤ 4 ∧ I = .int .i64 i ∧ Hid (lightTo v i = true) ∧ w' = V) (fun I _ => 4 - (intOf I).toNat)
  case atStart => exact ⟨0, by omega, rfl, hide rfl, rfl⟩
  case round =>
    obtain ⟨i, hi, rfl, HG, hwr⟩ := hrel
    replace hwr := hwr.symm
    subst hwr
    by_cases hlt : i < 4
    · have k0 : V.cell? ⟨w.heap.size, i * 3, none⟩ = some (.string (v.at i).path) := by rw [HX.out (i * 3), HVC.out]; exact (vsC_at v i (by omega)).1
      have HQ := hide (show lightTo v (i + 1) = decide ((v.at i).path.size ≤ 100) by rw [lightTo, HG.out, Bool.true_and]; rfl)
      obtain ⟨p, hp⟩ : ∃ p, p = (v.at i).path := ⟨_, rfl⟩
      rw [← hp] at k0 HQ
      clear hp
      by_cases h100 : 100 < p.size
      · have HF := hide (show z = false by
          have h1 := lightTo_false (HQ.out.trans (decide_eq_false (by omega))) (3 - i)
          rw [show i + 1 + (3 - i) = 4 by omega] at h1
          rw [HZ.out]
          exact h1)
        go_wp2
        go_ret
        exact ⟨ret_bool HF.out.symm, hB⟩
      · replace HQ := hide (HQ.out.trans (decide_eq_true (by omega)))
        go_wp2
        go_round
        case rel => exact ⟨i + 1, by omega, by go_num, HQ, trivial⟩
        case measure => simp [intOf]; omega
    · obtain rfl : i = 4 := by omega
      have HF := hide (show z = true by rw [HZ.out]; exact HG.out)
      go_wp2
      go_ret
      exact ⟨ret_bool HF.out.symm, hB⟩
end Go.Proofs.YtkogafponpjdnaaGreatDoor

/- SamePolicy, of two that are alike. -/
namespace Go.Proofs.YtkogafponpjdnaaGreatDoor
open Go.RowKit Go.Sort

set_option maxHeartbeats 4000000 in
set_option maxRecDepth 100000 in
theorem samePol_any (p : POL) (oa ob : Option Addr) (cap cbp : Nat) (w : World) (h1 : IsPol oa cap p w) (h2 : IsPol ob cbp p w) :
    Calls Tryz.prog 15 #[polV p oa cap, polV p ob cbp] w fun e w' => e = .returned (.bool true) ∧ Below w.heap.size w w' := by
  obtain ⟨n, hn⟩ : ∃ n, n = p.rules.length := ⟨_, rfl⟩
  have HC := hide (pol_parts h1 n hn)
  have HD := hide (pol_parts h2 n hn)
  have hmax : n ≤ 9223372036854775807 := by have h3 := h1.le; have h4 := h1.cap; unfold maxLen at h4; omega
  clear h1 h2
  obtain ⟨rs, ⟨ak, ae⟩⟩ := p
  unfold polV
  simp only at HC HD hn ⊢
  rw [← hn]
  have HL := hide (show ∀ i, i < n → ∃ c, rs[i]? = some c from fun i h => ⟨_, List.getElem?_eq_getElem (by omega)⟩)
  clear hn
  obtain ⟨V, hV, hB, hx, hy⟩ := two_box w #[.slice oa n cap, .int .i64 ak, .int .i64 ae] #[.slice ob n cbp, .int .i64 ak, .int .i64 ae] 26 26
  have x0 := hx 0
  have y0 := hy 0
  simp only [List.getElem?_toArray, List.getElem?_cons_zero] at x0 y0
  clear hx hy
  go_enter Tryz.func15, Tryz.ntmps15
  go_wp2
  rw [← hV]
  clear hV
  go_loopw [5] (fun I w' => ∃ i : Nat, i ≤ n ∧ I = .int .i64 i ∧ Hid (Below V.heap.size V w')) (fun I _ => n - (intOf I).toNat)
  case atStart => exact ⟨0, by omega, rfl, hide (Below.refl _ _)⟩
  case round =>
    obtain ⟨i, hi, rfl, HB⟩ := hrel
    have HW := hide (below_next hB HB.out)
    have z0 := keep_cell HB.out x0
    have u0 := keep_cell HB.out y0
    by_cases hlt : i < n
    · obtain ⟨c, hcs⟩ := HL.out i hlt
      obtain ⟨b, off, rfl, hbw, HA⟩ := HC.out (by omega)
      obtain ⟨b2, off2, rfl, hbw2, HA2⟩ := HD.out (by omega)
      obtain ⟨ca, cc, hR0⟩ := HA.out i c hcs
      obtain ⟨cb, cd, hS0⟩ := HA2.out i c hcs
      have hR := hR0.on hbw HW.out
      have hS := hS0.on hbw2 HW.out
      obtain ⟨m, hm⟩ : ∃ m, m = c.conds.length := ⟨_, rfl⟩
      have hmm : m ≤ 9223372036854775807 := by have h1 := hR.le; have h2 := hR.cap; unfold maxLen at h2; omega
      obtain ⟨W2, hW2, hW2b, hr, hs⟩ := two_box wr #[.int .i64 c.nr, .slice ca m cc, .int .i64 c.act.kind, .int .i64 c.act.errno] #[.int .i64 c.nr, .slice cb m cd, .int .i64 c.act.kind, .int .i64 c.act.errno] 65 65
      have HCC := hide (conds_parts (hR.conds.on hW2b) m hm)
      have HCD := hide (conds_parts (hS.conds.on hW2b) m hm)
      have HCL := hide (show ∀ j, j < m → ∃ x, c.conds[j]? = some x from fun j h => ⟨_, List.getElem?_eq_getElem (by omega)⟩)
      obtain ⟨p0, p1, p2, p3, _, _, _, _⟩ := hR
      obtain ⟨q0, q1, q2, q3, _, _, _, _⟩ := hS
      rw [← hm] at p1 q1
      have r1 := hr 1
      have s1 := hs 1
      simp only [List.getElem?_toArray, List.getElem?_cons_zero, List.getElem?_cons_succ] at r1 s1
      have lb : b < wr.heap.size := Nat.lt_of_lt_of_le hbw HW.out.size
      have lb2 : b2 < wr.heap.size := Nat.lt_of_lt_of_le hbw2 HW.out.size
      have lw : w.heap.size + 1 < wr.heap.size := block_lt_of_cell u0
      clear hr hs hR0 hS0 hcs hm
      obtain ⟨nr, cs, ⟨rk, re⟩⟩ := c
      simp only at p0 p1 p2 p3 q0 q1 q2 q3 hW2 HCL HCC HCD
      go_wp2
      rw [← hW2]
      have HW2 := hide hW2
      clear hW2
      go_loopw [8] (fun J w' => ∃ j : Nat, j ≤ m ∧ J = .int .i64 j ∧ Hid (Below W2.heap.size W2 w')) (fun J _ => m - (intOf J).toNat)
      case atStart => exact ⟨0, by omega, rfl, hide (Below.refl _ _)⟩
      case round =>
        obtain ⟨j, hj, rfl, HBJ⟩ := hrel
        have t1 := keep_cell HBJ.out r1
        have v1 := keep_cell HBJ.out s1
        by_cases hjl : j < m
        · obtain ⟨x, hxs⟩ := HCL.out j hjl
          obtain ⟨b3, off3, rfl, hbw3, HA3⟩ := HCC.out (by omega)
          obtain ⟨b4, off4, rfl, hbw4, HA4⟩ := HCD.out (by omega)
          obtain ⟨g0, g1, g2, g3, g4, g5, g6, g7, g8, _⟩ := (HA3.out j x hxs).on fun k => (bcell HBJ.out).1 b3 k hbw3
          obtain ⟨k0, k1, k2, k3, k4, k5, k6, k7, k8, _⟩ := (HA4.out j x hxs).on fun k => (bcell HBJ.out).1 b4 k hbw4
          obtain ⟨arg, op, vv, mm, gl, ⟨ip, bb, lo, hh⟩⟩ := x
          simp only at g0 g1 g2 g3 g4 g5 g6 g7 g8 k0 k1 k2 k3 k4 k5 k6 k7 k8
          have i1 : (0 : Int) ≤ j := by omega
          have i2 : (j : Int) < m := by omega
          clear hxs
          go_wp2
          go_quiet (fail)
          go_wp2
          go_round
          case rel => exact ⟨j + 1, by omega, by go_num, hide (below_drewN' HBJ.out _)⟩
          case measure => simp [intOf]; omega
        · obtain rfl : j = m := by omega
          go_wp2
          go_round
          case rel => exact ⟨i + 1, by omega, by go_num, hide (below_next (below_next HB.out hW2b) HBJ.out)⟩
          case measure => simp [intOf]; omega
    · obtain rfl : i = n := by omega
      go_wp2
      go_ret
      exact ⟨rfl, HW.out⟩
end Go.Proofs.YtkogafponpjdnaaGreatDoor

/- Own: a policy in its own memory, a mark behind each rule's conds. -/
namespace Go.Proofs.YtkogafponpjdnaaGreatDoor
open Go.RowKit Go.Sort

theorem flatC_one (cs : List CD) : ∀ u ∈ flatC cs, u.oneCell' = true := fun u h => by
  unfold flatC at h
  obtain ⟨c, _, hu⟩ := List.mem_flatMap.1 h
  simp only [condC, List.mem_cons, List.not_mem_nil, or_false] at hu
  rcases hu with rfl | rfl | rfl | rfl | rfl | rfl | rfl | rfl | rfl <;> rfl
theorem add_at (b off j : Nat) : (⟨b, off, none⟩ : Addr).add j = ⟨b, off + j, none⟩ := by unfold Addr.add; split <;> simp_all
theorem flatC_cells {oa : Option Addr} {cs : List CD} {W : World} (h : IsConds oa cs W) {ad : Addr} (ha : oa = some ad) : ∀ j u, (flatC cs)[j]? = some u → W.cell? (ad.add j) = some u := fun j u hu => by
  have hj : j < cs.length * 9 := by rw [← flatC_len cs]; exact (List.getElem?_eq_some_iff.1 hu).1
  obtain ⟨b, off, h1, _, h3⟩ := h.lie (by omega)
  rw [ha] at h1
  obtain rfl := Option.some.inj h1
  obtain ⟨c, hc⟩ : ∃ c, cs[j / 9]? = some c := ⟨_, List.getElem?_eq_getElem (by omega)⟩
  have hI := h3 (j / 9) c hc
  have hg := flatC_get cs (j / 9) c (j % 9) hc (by omega)
  rw [show j / 9 * 9 + j % 9 = j by omega, hu] at hg
  rw [add_at, show off + j = off + j / 9 * 9 + j % 9 by omega, hg]
  have hcc : j % 9 = 0 ∨ j % 9 = 1 ∨ j % 9 = 2 ∨ j % 9 = 3 ∨ j % 9 = 4 ∨ j % 9 = 5 ∨ j % 9 = 6 ∨ j % 9 = 7 ∨ j % 9 = 8 := by omega
  rcases hcc with e | e | e | e | e | e | e | e | e
  · rw [e]; exact hI.k0
  · rw [e]; exact hI.k1
  · rw [e]; exact hI.k2
  · rw [e]; exact hI.k3
  · rw [e]; exact hI.k4
  · rw [e]; exact hI.k5
  · rw [e]; exact hI.k6
  · rw [e]; exact hI.k7
  · rw [e]; exact hI.k8

/-- 'append([]Cond(nil), l...)', as a step of a region that draws. -/
theorem step_append_conds {ops : Array Oper} {o : Oper} {a : Act} {w : World} {K : Act → World → Prop} {Q : Exit → Act → World → Prop} {E : Prop} (hgd : o.guard = none) (s x : Operand)
    (ho : o.op = .call { callee := .builtin .append, args := #[s, x], argTypes := #[63, 63] })
    (base : Nat) (hs : a.eval s = .slice none 0 0) (oa : Option Addr) (n cap : Nat) (cs : List CD) (hx : a.eval x = .slice oa n cap) (hn : n = cs.length) (hP : IsConds oa cs w)
    (hn9 : n ≤ 9) (hbase : base ≤ w.heap.size)
    (h : ∀ v' w', w'.ownsRow base 69 9 v' n (flatC cs) → Below w.heap.size w w' → K (a.put o.dst v') w') :
    if Region.wanted o (yielded ops a.tmps) = true then Oper.wp Tryz.prog o a w K Q else E := by
  have hw : Region.wanted o (yielded ops a.tmps) = true := by simp [Region.wanted, hgd]
  rw [if_pos hw]
  obtain ⟨i, hi, hz, hsz, hby⟩ := info_cond
  have key : ∃ v' w', (Builtin.append_ #[63, 63] o.type #[.slice none 0 0, .slice oa n cap]).run Tryz.prog w = .ok v' w' ∧ w'.ownsRow base 69 9 v' n (flatC cs) ∧ Below w.heap.size w w' := by
    cases oa with
    | none =>
      have h0 : cs.length = 0 := by
        rcases Nat.eq_zero_or_pos cs.length with h | h
        · exact h
        · obtain ⟨_, _, h1, _⟩ := hP.lie h
          cases h1
      obtain rfl := List.length_eq_zero_iff.1 h0
      subst hn
      exact ⟨.slice none 0 0, w, by simp [Builtin.append_, run_underlying Tryz.underlying63, sizeOf, typeInfo, hi, Builtin.lenOf, Builtin.firstCells], World.ownsRow_nil _ _ _ _, Below.refl _ _⟩
    | some ad =>
      obtain ⟨v', w', hr, h2, h3, _, _⟩ := run_append_own_at (P := Tryz.prog) w base 63 o.type 69 i _ 9 80 Tryz.underlying63 hi hz hsz hby rfl (by decide) (.slice none 0 0) 0 [] (World.ownsRow_nil _ _ _ _) ad n cap (flatC cs) (by rw [flatC_len, hn]) (flatC_cells hP rfl) (flatC_one cs) (by simp only [maxLen]; omega) (by omega) hbase
      rw [Nat.zero_add, List.nil_append] at h2
      exact ⟨v', w', hr, h2, (Below.refl _ _).grown h3 (Nat.le_refl _) (fun k hk => by cases hk)⟩
  obtain ⟨v', w', hr, h2, h3⟩ := key
  unfold Oper.wp execOp
  simp only [ho, resolve, invoke, builtin, Sem.run_bind, Sem.run_pure, Result.andThen_ok, List.map_toArray, List.map_cons, List.map_nil, hs, hx, hr]
  exact h v' w' h2 h3

theorem conds_prefix {W : World} {base k cap g : Nat} {cs : List CD} {ys : List Value} (h : W.ownsRow base 69 9 (.slice (some ⟨g, 0, none⟩) k cap) k (flatC cs ++ ys)) (hok : ∀ c ∈ cs, CdOk c) : IsConds (some ⟨g, 0, none⟩) cs W :=
  ⟨fun _ => ⟨g, 0, rfl, (h.lt g rfl).2, fun i c hc => by
    have hi : i < cs.length := (List.getElem?_eq_some_iff.1 hc).1
    have hcell : ∀ j u, j < 9 → (condC c).toList[j]? = some u → W.cell? ⟨g, 0 + i * 9 + j, none⟩ = some u := fun j u hj hu => by
      have h5 := h.cells (g := g) rfl (i * 9 + j) u (by rw [List.getElem?_append_left (by rw [flatC_len]; omega), flatC_get cs i c j hc hj]; exact hu)
      rwa [add_at, ← Nat.add_assoc] at h5
    exact ⟨hcell 0 _ (by omega) rfl, hcell 1 _ (by omega) rfl, hcell 2 _ (by omega) rfl, hcell 3 _ (by omega) rfl, hcell 4 _ (by omega) rfl, hcell 5 _ (by omega) rfl, hcell 6 _ (by omega) rfl, hcell 7 _ (by omega) rfl, hcell 8 _ (by omega) rfl, hok c (List.mem_of_getElem? hc)⟩⟩⟩
theorem owned_cap {W : World} {base n cap g : Nat} {xs : List Value} (h : W.ownsRow base 69 9 (.slice (some ⟨g, 0, none⟩) n cap) n xs) : n ≤ cap ∧ cap ≤ maxLen := by
  rcases h.2 with ⟨h1, _⟩ | ⟨g', cap', cur, h1, _, _, hc, hm, _⟩
  · cases h1
  · cases h1; exact ⟨hc, hm⟩
theorem row_grown {X Y : World} {o : Option Nat} {r : Nat} {x : Obj} (h : X.heap[r]? = some x) (hg : X.grownBy Y o) (hne : ∀ k, o = some k → r + 1 ≤ k) : Y.heap[r]? = some x :=
  (hg.block r (Array.getElem?_eq_some_iff.1 h).1 (fun e => by have := hne r e.symm; omega)).trans h

/-- A rule with conds of its own. -/
structure OZ (wr : World) (r6 : Nat) (nr : Int) (cs : List CD) (a : ACT) (gg cap1 : Nat) (Z : World) : Prop where
  below : Below wr.heap.size wr Z
  row : Z.heap[r6]? = some (.cells (ruleC nr (.slice (some ⟨gg, 0, none⟩) cs.length cap1) a) 65 (0, 0))
  conds : IsConds (some ⟨gg, 0, none⟩) cs Z
  le : cs.length ≤ cap1
  cap : cap1 ≤ maxLen
  lt : r6 < gg ∧ gg < Z.heap.size
theorem oz_of {wr X Y : World} {r6 m gg cap1 : Nat} {nr : Int} {cs : List CD} {a : ACT} {sv v : Value} {ys : List Value} (h0 : Below wr.heap.size wr X) (h6 : wr.heap.size ≤ r6) (hr : X.heap[r6]? = some (.cells (ruleC nr sv a) 65 (0, 0))) (hv : ∀ k, v.ownBlock = some k → r6 + 1 ≤ k)
    (hg : X.grownBy Y v.ownBlock) (ho : Y.ownsRow (r6 + 1) 69 9 (.slice (some ⟨gg, 0, none⟩) (m + 1) cap1) (m + 1) (flatC cs ++ ys)) (hok : ∀ c ∈ cs, CdOk c) (hm : m = cs.length) :
    OZ wr r6 nr cs a gg cap1 (Y.setCell ⟨r6, 1, none⟩ (.slice (some ⟨gg, 0, none⟩) m cap1)) := by
  have hY := row_grown hr hg hv
  have hl := ho.lt gg rfl
  have hc := owned_cap ho
  have hXY : Below wr.heap.size wr Y := h0.trans ⟨hg.os, hg.tape, hg.output, hg.size, fun k hk => hg.block k (Nat.lt_of_lt_of_le hk h0.size) (fun e => by have := hv k e.symm; omega)⟩
  have hB := But.set r6 1 Y (.slice (some ⟨gg, 0, none⟩) m cap1)
  refine ⟨hB.below hXY h6 hXY.size, ?_, ?_, by omega, hc.2, ⟨by omega, Nat.lt_of_lt_of_le hl.2 hB.size⟩⟩
  · rw [setCell_eq_setRow _ _ 1 _ _ _ _ hY, setRow_heap _ _ _ _ _ _ hY, hm]
    rfl
  · exact (conds_prefix ho hok).heap (fun b off e hb => hB.block b hb (by simp only [Option.some.injEq, Addr.mk.injEq] at e; omega)) hB.size

theorem oz_plain {wr W1 w1 w2 : World} {m gg cap1 : Nat} {nr : Int} {cs : List CD} {a : ACT} {sv v : Value} {xs ys : List Value} (h0 : Below wr.heap.size wr W1) (hb : Below W1.heap.size W1 w1) (hr : w1.heap[wr.heap.size]? = some (.cells (ruleC nr sv a) 65 (0, 0))) (hv : w1.ownsRow (wr.heap.size + 1) 69 9 v m xs)
    (hg : w1.grownBy w2 v.ownBlock) (ho : w2.ownsRow (wr.heap.size + 1) 69 9 (.slice (some ⟨gg, 0, none⟩) (m + 1) cap1) (m + 1) (flatC cs ++ ys)) (hok : ∀ c ∈ cs, CdOk c) (hm : m = cs.length) :
    OZ wr wr.heap.size nr cs a gg cap1 (w2.setCell ⟨wr.heap.size, 1, none⟩ (.slice (some ⟨gg, 0, none⟩) m cap1)) ∧ w2.heap[wr.heap.size]? = some (.cells (ruleC nr sv a) 65 (0, 0)) ∧ m ≤ cap1 :=
  ⟨oz_of (below_next h0 hb) (Nat.le_refl _) hr (fun k hk => (hv.lt k hk).1) hg ho hok hm, row_grown hr hg (fun k hk => (hv.lt k hk).1), by have := (owned_cap ho).1; omega⟩
theorem oz_alloc {wr W1 w1 w2 : World} {o : Obj} {m gg cap1 : Nat} {nr : Int} {cs : List CD} {a : ACT} {sv v : Value} {xs ys : List Value} (h0 : Below wr.heap.size wr W1) (hb : Below W1.heap.size W1 w1) (hr : w1.heap[wr.heap.size]? = some (.cells (ruleC nr sv a) 65 (0, 0))) (hv : w1.ownsRow (wr.heap.size + 1) 69 9 v m xs)
    (hg : (w1.alloc o).grownBy w2 v.ownBlock) (ho : w2.ownsRow (wr.heap.size + 1) 69 9 (.slice (some ⟨gg, 0, none⟩) (m + 1) cap1) (m + 1) (flatC cs ++ ys)) (hok : ∀ c ∈ cs, CdOk c) (hm : m = cs.length) :
    OZ wr wr.heap.size nr cs a gg cap1 (w2.setCell ⟨wr.heap.size, 1, none⟩ (.slice (some ⟨gg, 0, none⟩) m cap1)) ∧ w2.heap[wr.heap.size]? = some (.cells (ruleC nr sv a) 65 (0, 0)) ∧ m ≤ cap1 := by
  have hr2 : (w1.alloc o).heap[wr.heap.size]? = some (.cells (ruleC nr sv a) 65 (0, 0)) := ((box_below w1 o).block _ (Array.getElem?_eq_some_iff.1 hr).1).trans hr
  exact ⟨oz_of (below_next (below_next h0 hb) (box_below w1 o)) (Nat.le_refl _) hr2 (fun k hk => (hv.lt k hk).1) hg ho hok hm, row_grown hr2 hg (fun k hk => (hv.lt k hk).1), by have := (owned_cap ho).1; omega⟩

/-- The world in the midst of Own. -/
structure OX (w : World) (oa : Option Addr) (n cap : Nat) (a : ACT) (sv : Value) (X : World) : Prop where
  below : Below w.heap.size w X
  box : X.heap[w.heap.size]? = some (.cells (polC (.slice oa n cap) a) 26 (0, 0))
  res : X.heap[w.heap.size + 1]? = some (.cells (polC (.slice none 0 0) ⟨0, 0⟩) 26 (0, 0))
  row : X.heap[w.heap.size + 2]? = some (.cells (polC sv a) 26 (0, 0))
theorem OX.heap {w : World} {oa : Option Addr} {n cap : Nat} {a : ACT} {sv : Value} {X Y : World} (h : OX w oa n cap a sv X) (ho : Y.os = X.os ∧ Y.tape = X.tape ∧ Y.output = X.output) (hs : X.heap.size ≤ Y.heap.size) (hb : ∀ k, k ≤ w.heap.size + 2 → Y.heap[k]? = X.heap[k]?) : OX w oa n cap a sv Y :=
  ⟨h.below.trans ⟨ho.1, ho.2.1, ho.2.2, hs, fun k hk => hb k (by omega)⟩, (hb _ (by omega)).trans h.box, (hb _ (by omega)).trans h.res, (hb _ (by omega)).trans h.row⟩
theorem OX.lt {w : World} {oa : Option Addr} {n cap : Nat} {a : ACT} {sv : Value} {X : World} (h : OX w oa n cap a sv X) : w.heap.size + 2 < X.heap.size := (Array.getElem?_eq_some_iff.1 h.row).1
theorem OX.on {w : World} {oa : Option Addr} {n cap : Nat} {a : ACT} {sv : Value} {X Y : World} (h : OX w oa n cap a sv X) (hb : Below X.heap.size X Y) : OX w oa n cap a sv Y :=
  h.heap ⟨hb.os, hb.tape, hb.output⟩ hb.size fun k hk => hb.block k (by have := h.lt; omega)
theorem OX.set {w : World} {oa : Option Addr} {n cap : Nat} {a : ACT} {sv : Value} {X : World} (h : OX w oa n cap a sv X) (sv' : Value) : OX w oa n cap a sv' (X.setCell ⟨w.heap.size + 2, 0, none⟩ sv') := by
  rw [setCell_eq_setRow _ _ 0 _ _ _ _ h.row, show (polC sv a).setIfInBounds 0 sv' = polC sv' a from rfl]
  have hb : ∀ k, k ≠ w.heap.size + 2 → (X.setRow (w.heap.size + 2) (polC sv' a)).heap[k]? = X.heap[k]? := fun k hk => row_heap X _ k _ hk
  exact ⟨h.below.trans ⟨rfl, rfl, rfl, by rw [row_size]; exact Nat.le_refl _, fun k hk => hb k (by omega)⟩, (hb _ (by omega)).trans h.box, (hb _ (by omega)).trans h.res, setRow_heap _ _ _ _ _ _ h.row⟩
theorem OX.start (w : World) (oa : Option Addr) (n cap : Nat) (a : ACT) : OX w oa n cap a (.slice none 0 0) (((w.alloc (.cells (polC (.slice oa n cap) a) 26)).alloc (.cells (polC (.slice none 0 0) ⟨0, 0⟩) 26)).alloc (.cells (polC (.slice none 0 0) a) 26)) := by
  obtain ⟨A, hA⟩ : ∃ A, A = w.alloc (.cells (polC (.slice oa n cap) a) 26) := ⟨_, rfl⟩
  have a1 : A.heap[w.heap.size]? = some (.cells (polC (.slice oa n cap) a) 26 (0, 0)) := by rw [hA]; exact heap_alloc_new _ _
  have a2 : Below w.heap.size w A := by rw [hA]; exact box_below _ _
  have a3 : A.heap.size = w.heap.size + 1 := by rw [hA, World.size_alloc]
  rw [← hA]
  obtain ⟨B, hB⟩ : ∃ B, B = A.alloc (.cells (polC (.slice none 0 0) ⟨0, 0⟩) 26) := ⟨_, rfl⟩
  have b1 : B.heap[w.heap.size + 1]? = some (.cells (polC (.slice none 0 0) ⟨0, 0⟩) 26 (0, 0)) := by rw [hB, ← a3]; exact heap_alloc_new _ _
  have b2 : Below A.heap.size A B := by rw [hB]; exact box_below _ _
  have b3 : B.heap.size = w.heap.size + 2 := by rw [hB, World.size_alloc, a3]
  rw [← hB]
  have c2 := box_below B (.cells (polC (.slice none 0 0) a) 26)
  exact ⟨below_next (below_next a2 b2) c2, ((c2.block _ (by omega)).trans (b2.block _ (by omega))).trans a1, (c2.block _ (by omega)).trans b1, by rw [← b3]; exact heap_alloc_new _ _⟩

set_option maxHeartbeats 8000000 in
set_option maxRecDepth 100000 in
theorem own_any (p : POL) (hf : p.rules.length ≤ 14) (hc6 : ∀ r ∈ p.rules, r.conds.length ≤ 6) (oa : Option Addr) (cap : Nat) (w : World) (h : IsPol oa cap p w) :
    Calls Tryz.prog 8 #[polV p oa cap] w fun e w' => (∃ ob cb, e = .returned (polV p ob cb) ∧ IsPol ob cb p w') ∧ Below w.heap.size w w' := by
  obtain ⟨n, hn⟩ : ∃ n, n = p.rules.length := ⟨_, rfl⟩
  have HC := hide (pol_parts h n hn)
  have HPK := hide h.ok
  clear h
  have h14 : n ≤ 14 := by omega
  have H6 := hide hc6
  clear hc6 hf
  obtain ⟨rs, ⟨ak, ae⟩⟩ := p
  have HPV := hide (show ∀ ob cb, polV ⟨rs, ⟨ak, ae⟩⟩ ob cb = .agg #[.slice ob n cb, .int .i64 ak, .int .i64 ae] from fun ob cb => by unfold polV; simp only at hn ⊢; rw [← hn])
  rw [HPV.out]
  simp only at HC hn H6
  have HN := hide hn
  have HL := hide (show ∀ i, i < n → ∃ c, rs[i]? = some c ∧ rs.take (i + 1) = rs.take i ++ [c] from fun i h => take_next (by omega))
  clear hn
  have HO0 := hide (OX.start w oa n cap ⟨ak, ae⟩)
  unfold polC at HO0
  simp only at HO0
  obtain ⟨V, hV⟩ : ∃ V, V = ((w.alloc (.cells #[.slice oa n cap, .int .i64 ak, .int .i64 ae] 26)).alloc (.cells #[.slice none 0 0, .int .i64 0, .int .i64 0] 26)).alloc (.cells #[.slice none 0 0, .int .i64 ak, .int .i64 ae] 26) := ⟨_, rfl⟩
  rw [← hV] at HO0
  go_enter Tryz.func8, Tryz.ntmps8
  go_wp2
  rw [← hV]
  clear hV
  go_loopw [4] (fun I w' => ∃ (i : Nat) (es : List RE) (sv : Value), i ≤ n ∧ I = .int .i64 i ∧ Hid (OX w oa n cap ⟨ak, ae⟩ sv w') ∧ Hid (w'.ownsRow (w.heap.size + 3) 65 4 sv es.length (flatR es)) ∧ Hid (CondsOk (w.heap.size + 2) sv es w') ∧ Hid (es.map (·.1) = rs.take i) ∧ Hid (es.length = i)) (fun I _ => n - (intOf I).toNat)
  case atStart => exact ⟨0, [], .slice none 0 0, by omega, rfl, HO0, hide (World.ownsRow_nil _ _ _ _), hide (fun e he => by cases he), hide (by simp), hide rfl⟩
  case round =>
    obtain ⟨i, es, sv, hi, rfl, HX, HO, HK, HI, HEL⟩ := hrel
    clear HO0
    have b0 : wr.cell? ⟨w.heap.size, 0, none⟩ = some (.slice oa n cap) := cell_of_row _ _ 0 _ _ _ HX.out.box
    have lX := HX.out.lt
    by_cases hlt : i < n
    · obtain ⟨c, hcs, hcat⟩ := HL.out i hlt
      obtain ⟨b, off, rfl, hbw, HA⟩ := HC.out (by omega)
      obtain ⟨ca, cc, hR0⟩ := HA.out i c hcs
      have hR := hR0.on hbw HX.out.below
      obtain ⟨m, hm⟩ : ∃ m, m = c.conds.length := ⟨_, rfl⟩
      have hm6 : m ≤ 6 := by rw [hm]; exact H6.out c (List.mem_of_getElem? hcs)
      have HROK := hide hR.ok
      have HTK := hide hcat
      have HM := hide hm
      obtain ⟨W1, hW1, hW1b, hW1h, hW1s⟩ : ∃ V, V = wr.alloc (.cells #[.int .i64 c.nr, .slice ca m cc, .int .i64 c.act.kind, .int .i64 c.act.errno] 65) ∧ Below wr.heap.size wr V ∧ V.heap[wr.heap.size]? = some (.cells (ruleC c.nr (.slice ca m cc) c.act) 65 (0, 0)) ∧ V.heap.size = wr.heap.size + 1 := ⟨_, rfl, box_below _ _, heap_alloc_new _ _, by rw [World.size_alloc]⟩
      have HIC : Hid (IsConds ca c.conds W1) := hide (hR.conds.on hW1b)
      have HW1 : Hid (Below wr.heap.size wr W1) := hide hW1b
      have HR1 : Hid (W1.heap[wr.heap.size]? = some (.cells (ruleC c.nr (.slice ca m cc) c.act) 65 (0, 0))) := hide hW1h
      have r1 : W1.drew.cell? ⟨wr.heap.size, 1, none⟩ = some (.slice ca m cc) := cell_of_row _ _ 1 _ _ _ HR1.out
      have f1 : W1.drew.frozen? ⟨wr.heap.size, 1, none⟩ = false := frozen_of_row _ _ 1 _ _ HR1.out
      have r1b : (W1.alloc (.cells #[.int .i64 0, .int .i64 77, .int .u64 0, .int .u64 0, .string ⟨#[]⟩, .int .u32 0, .int .i64 0, .int .i64 0, .int .i64 0] 69)).drew.cell? ⟨wr.heap.size, 1, none⟩ = some (.slice ca m cc) := keep_cell (box_below W1 _).drew (cell_of_row _ _ 1 _ _ _ HR1.out)
      have l1 : wr.heap.size < W1.heap.size := by omega
      have L1 := hide hW1s
      obtain ⟨p0, p1, p2, p3, _, _, _, _⟩ := hR
      rw [← hm] at p1
      clear hcs hcat hR0 hm hW1b hW1h hW1s
      obtain ⟨nr, cs, ⟨rk, re⟩⟩ := c
      simp only at p0 p1 p2 p3 hW1 HIC HR1 HROK HM HTK
      obtain ⟨inf, hi0, hz0, hz1, hz2⟩ := info_cond
      go_wp2
      rw [← hW1]
      clear hW1 p0 p1 p2 p3 b0
      have i1 : (0 : Int) ≤ m := by omega
      go_region_law
        (first
          | (refine step_append_conds (by rfl) _ _ (by rfl) (wr.heap.size + 1) (by rfl) ca m cc cs (by rfl) HM.out (by first | exact HIC.out.on (Below.refl _ W1).drew | exact (HIC.out.on (box_below W1 _)).on (Below.refl _ _).drew) (by omega) (by first | (have := L1.out; show _ ≤ W1.heap.size; omega) | (have := L1.out; show _ ≤ (W1.alloc _).heap.size; rw [World.size_alloc]; omega)) ?_; intro v1 w1 ho1 hb1; have HB1 : Hid (Below W1.heap.size W1 w1) := hide (by first | exact drewB hb1 | exact drewA hb1); have HR2 := hide ((HB1.out.block _ l1).trans HR1.out); have r2 : w1.cell? ⟨wr.heap.size, 1, none⟩ = some (.slice ca m cc) := cell_of_row _ _ 1 _ _ _ HR2.out; have l2 : wr.heap.size < w1.heap.size := block_lt_of_cell r2; have HO1 := hide ho1; (first | have HE := hide ((hb1.block W1.heap.size (by show _ < (W1.alloc _).heap.size; rw [World.size_alloc]; exact Nat.lt_succ_self _)).trans (heap_alloc_new W1 _)) | skip); clear ho1 hb1)
          | (refine step_append_lies _ (by rfl) _ _ _ (by rfl) (wr.heap.size + 1) 69 inf _ 9 80 Tryz.underlying63 hi0 hz0 hz1 hz2 rfl (by omega) v1 m (flatC cs) (by rfl) (HO1.out.alloc _)
                ⟨w1.heap.size, 0, none⟩ 1 1 [.int .i64 0, .int .i64 77, .int .u64 0, .int .u64 0, .string ⟨#[]⟩, .int .u32 0, .int .i64 0, .int .i64 0, .int .i64 0] (by rfl) (by rfl) (World.news_of_block (cs := #[.int .i64 0, .int .i64 77, .int .u64 0, .int .u64 0, .string ⟨#[]⟩, .int .u32 0, .int .i64 0, .int .i64 0, .int .i64 0]) (t := 69) (fr := (0, 0)) (heap_alloc_new w1 _)) (by simp [Value.oneCell'])
                (by omega) (by simp only [maxLen]; omega) (by omega) (by rw [World.size_alloc]; omega) (w1.heap.size + 1) (by simp) ?_; intro gg cap1 w2 hown1 hgrow hat hltt; have HZ3 := hide (oz_alloc HW1.out HB1.out HR2.out HO1.out hgrow hown1 HROK.out.conds HM.out); have HZ := hide HZ3.out.1; have hcp := HZ3.out.2.2; have r3 : w2.cell? ⟨wr.heap.size, 1, none⟩ = some (.slice ca m cc) := cell_of_row _ _ 1 _ _ _ HZ3.out.2.1; have f3 : w2.frozen? ⟨wr.heap.size, 1, none⟩ = false := frozen_of_row _ _ 1 _ _ HZ3.out.2.1; have i2 : (m : Int) ≤ cap1 := (by omega); clear hown1 hgrow hat hltt)
          | (refine step_append_lies _ (by rfl) _ _ _ (by rfl) (wr.heap.size + 1) 69 inf _ 9 80 Tryz.underlying63 hi0 hz0 hz1 hz2 rfl (by omega) v1 m (flatC cs) (by rfl) HO1.out
                ⟨W1.heap.size, 0, none⟩ 1 1 [.int .i64 0, .int .i64 77, .int .u64 0, .int .u64 0, .string ⟨#[]⟩, .int .u32 0, .int .i64 0, .int .i64 0, .int .i64 0] (by rfl) (by rfl) (World.news_of_block (cs := #[.int .i64 0, .int .i64 77, .int .u64 0, .int .u64 0, .string ⟨#[]⟩, .int .u32 0, .int .i64 0, .int .i64 0, .int .i64 0]) (t := 69) (fr := (0, 0)) HE.out) (by simp [Value.oneCell'])
                (by omega) (by simp only [maxLen]; omega) (by omega) (by omega) w1.heap.size (by rfl) ?_; intro gg cap1 w2 hown1 hgrow hat hltt; have HZ3 := hide (oz_plain HW1.out HB1.out HR2.out HO1.out hgrow hown1 HROK.out.conds HM.out); have HZ := hide HZ3.out.1; have hcp := HZ3.out.2.2; have r3 : w2.cell? ⟨wr.heap.size, 1, none⟩ = some (.slice ca m cc) := cell_of_row _ _ 1 _ _ _ HZ3.out.2.1; have f3 : w2.frozen? ⟨wr.heap.size, 1, none⟩ = false := frozen_of_row _ _ 1 _ _ HZ3.out.2.1; have i2 : (m : Int) ≤ cap1 := (by omega); clear hown1 hgrow hat hltt))
      all_goals
        refine forget_any (OZ wr wr.heap.size nr cs ⟨rk, re⟩ gg cap1) HZ.out ?_
        intro Z hZ
        have HZZ := hide hZ
        clear hZ HZ HZ3 r3 f3 HR2 r2 l2 HO1 HB1
        have HXZ := hide (HX.out.on HZZ.out.below)
        have HOZ := hide (own_on HO.out HZZ.out.below)
        have m0 : Z.cell? ⟨wr.heap.size, 0, none⟩ = some (.int .i64 nr) := cell_of_row _ _ 0 _ _ _ HZZ.out.row
        have m1 : Z.cell? ⟨wr.heap.size, 1, none⟩ = some (.slice (some ⟨gg, 0, none⟩) m cap1) := by rw [HM.out]; exact cell_of_row _ _ 1 _ _ _ HZZ.out.row
        have m2 : Z.cell? ⟨wr.heap.size, 2, none⟩ = some (.int .i64 rk) := cell_of_row _ _ 2 _ _ _ HZZ.out.row
        have m3 : Z.cell? ⟨wr.heap.size, 3, none⟩ = some (.int .i64 re) := cell_of_row _ _ 3 _ _ _ HZZ.out.row
        have cD : Z.cell? ⟨w.heap.size + 2, 0, none⟩ = some sv := cell_of_row _ _ 0 _ _ _ HXZ.out.row
        have l5 : w.heap.size + 2 < Z.heap.size := HXZ.out.lt
        obtain ⟨infR, hj0, hj1, hj2, hj3⟩ := info_rule
        have hel : es.length ≤ 14 := by have := HEL.out; omega
        go_wp2_with (refine wpList_append_lies _ (by rfl) _ _ _ (by rfl) (w.heap.size + 3) 65 infR _ 4 48 Tryz.underlying22 hj0 hj1 hj2 hj3 rfl (by omega) sv es.length (flatR es) (by rfl) (HOZ.out.alloc _) ⟨Z.heap.size, 0, none⟩ 1 1 [.int .i64 nr, .slice (some ⟨gg, 0, none⟩) m cap1, .int .i64 rk, .int .i64 re] (by rfl) (by rfl) (World.news_of_block (cs := #[.int .i64 nr, .slice (some ⟨gg, 0, none⟩) m cap1, .int .i64 rk, .int .i64 re]) (t := 65) (fr := (0, 0)) (heap_alloc_new Z _)) (by simp [Value.oneCell']) (by omega) (by simp only [maxLen]; omega) (by omega) (by rw [World.size_alloc]; omega) (Z.heap.size + 1) (by simp) ?_; intro g7 cap7 w7 hown7 hgrow7 hat7 hlt7; have HG7 := hide (And.intro hown7 (And.intro hgrow7 (And.intro hat7 hlt7))); have HW7 := hide (HXZ.out.heap (Y := w7) ⟨hgrow7.os, hgrow7.tape, hgrow7.output⟩ (Nat.le_trans (box_below Z _).size hgrow7.size) (fun k hk => (hgrow7.block k (by rw [World.size_alloc]; omega) (fun e1 => by have := (HOZ.out.lt k e1.symm).1; omega)).trans ((box_below Z _).block k (by omega)))); have cE : w7.cell? ⟨w.heap.size + 2, 0, none⟩ = some sv := cell_of_row _ _ 0 _ _ _ HW7.out.row; have fE : w7.frozen? ⟨w.heap.size + 2, 0, none⟩ = false := frozen_of_row _ _ 0 _ _ HW7.out.row; clear hown7 hgrow7 hat7 hlt7)
        have HS2 := hide (HW7.out.set (.slice (some ⟨g7, 0, none⟩) (es.length + 1) cap7))
        have HO2 := hide (own_but (r := w.heap.size + 2) (V := w7.setCell ⟨w.heap.size + 2, 0, none⟩ (.slice (some ⟨g7, 0, none⟩) (es.length + 1) cap7)) HG7.out.1 (But.set (w.heap.size + 2) 0 w7 _) (by omega))
        have HK2 := hide (condsOk_more (e := (⟨nr, cs, ⟨rk, re⟩⟩, some ⟨gg, 0, none⟩, cap1)) (gg := g7) (n := es.length + 1) (cap := cap7) HK.out HZZ.out.below ⟨HROK.out, HZZ.out.conds, HZZ.out.le, HZZ.out.cap, fun b off e0 => by
          simp only [Option.some.injEq, Addr.mk.injEq] at e0
          have := HZZ.out.lt
          omega⟩ HX.out.lt (fun k hk => (HO.out.lt k hk).2) HG7.out.2.1 HG7.out.2.2.1 (w7.setCell ⟨w.heap.size + 2, 0, none⟩ (.slice (some ⟨g7, 0, none⟩) (es.length + 1) cap7)) (fun k hk => Below.heap_setCell _ _ _ _ hk) (But.set (w.heap.size + 2) 0 w7 _).size)
        have HI2 := hide (show (es ++ [((⟨nr, cs, ⟨rk, re⟩⟩ : RL), (some ⟨gg, 0, none⟩ : Option Addr), cap1)]).map (·.1) = rs.take (i + 1) by rw [HTK.out, List.map_append, HI.out]; rfl)
        have HEL2 := hide (show (es ++ [((⟨nr, cs, ⟨rk, re⟩⟩ : RL), (some ⟨gg, 0, none⟩ : Option Addr), cap1)]).length = i + 1 by rw [List.length_append, List.length_singleton, HEL.out])
        replace HO2 : Hid ((w7.setCell ⟨w.heap.size + 2, 0, none⟩ (.slice (some ⟨g7, 0, none⟩) (es.length + 1) cap7)).ownsRow (w.heap.size + 3) 65 4 (.slice (some ⟨g7, 0, none⟩) (es.length + 1) cap7) (es ++ [((⟨nr, cs, ⟨rk, re⟩⟩ : RL), (some ⟨gg, 0, none⟩ : Option Addr), cap1)]).length (flatR (es ++ [((⟨nr, cs, ⟨rk, re⟩⟩ : RL), (some ⟨gg, 0, none⟩ : Option Addr), cap1)]))) := hide (by
          rw [List.length_append, List.length_singleton, flatR_snoc]
          have := HO2.out
          rw [HM.out] at this
          exact this)
        clear cD cE fE l5 HG7 HW7 HXZ HOZ m0 m1 m2 m3 HZZ
        go_wp2
        go_round
        case rel => exact ⟨i + 1, _, _, by omega, by go_num, HS2, HO2, HK2, HI2, HEL2⟩
        case measure => simp [intOf]; omega
    · obtain rfl : i = n := by omega
      have HEQ := hide (show es.map (·.1) = rs by rw [HI.out, List.take_of_length_le (by rw [HN.out]; exact Nat.le_refl _)])
      have c0 : wr.cell? ⟨w.heap.size + 2, 0, none⟩ = some sv := cell_of_row _ _ 0 _ _ _ HX.out.row
      have c1 : wr.cell? ⟨w.heap.size + 2, 1, none⟩ = some (.int .i64 ak) := cell_of_row _ _ 1 _ _ _ HX.out.row
      have c2 : wr.cell? ⟨w.heap.size + 2, 2, none⟩ = some (.int .i64 ae) := cell_of_row _ _ 2 _ _ _ HX.out.row
      obtain ⟨oc, cc, hsv, hcl, hcm, _⟩ := rules_owned HO.out HK.out
      subst hsv
      have hres := HX.out.res
      obtain ⟨rc, hrc⟩ : ∃ rc : Array Value, rc = polC (.slice oc es.length cc) ⟨ak, ae⟩ := ⟨_, rfl⟩
      have h1c : rc.all (·.oneCell') = true := by rw [hrc]; simp [polC, Value.oneCell']
      go_wp2_with (refine wpList_store_row rfl 26 _ _ rfl (w.heap.size + 1) rc rfl (by rw [hrc]; rfl) 26 _ hres (by rw [hrc]; exact size_pol) (by rw [hrc]; rfl) h1c ?_)
      have hb1 : ∀ k, k ≠ w.heap.size + 1 → (wr.setRow (w.heap.size + 1) rc).heap[k]? = wr.heap[k]? := fun k hk => row_heap wr _ k _ hk
      have hBt : But (w.heap.size + 1) wr (wr.setRow (w.heap.size + 1) rc) := ⟨rfl, rfl, rfl, by rw [row_size]; exact Nat.le_refl _, fun k _ hn => hb1 k hn⟩
      refine bodyPost_ret (v := .agg rc) (results_cell_row rfl _ _ (w.heap.size + 1) 26 rc (0, 0) _ rfl (setRow_heap _ _ _ _ _ _ hres) Tryz.underlying26 rfl (by rw [hrc]; exact size_pol)) rfl ⟨?_, hBt.below HX.out.below (by omega) HX.out.below.size⟩
      have hO2 := HO.out.kept hBt.grown (by
        by_cases he : (Value.slice oc es.length cc).ownBlock = some (w.heap.size + 1)
        · have := (HO.out.lt _ he).1
          omega
        · exact .inr he)
      have hK2 : CondsOk (w.heap.size + 2) (.slice oc es.length cc) es (wr.setRow (w.heap.size + 1) rc) := fun e he => by
        obtain ⟨q1, q2, q3, q4, q5⟩ := HK.out e he
        refine ⟨q1, q2.heap (fun b off e0 _ => hb1 b (by have := q5 b off e0; omega)) (by rw [row_size]; exact Nat.le_refl _), q3, q4, fun b off e0 => ?_⟩
        rw [row_size]
        exact q5 b off e0
      obtain ⟨oc', cc', hsv', _, _, hIR⟩ := rules_owned hO2 hK2
      simp only [Value.slice.injEq] at hsv'
      obtain ⟨rfl, _, rfl⟩ := hsv'
      rw [HEQ.out] at hIR
      exact ⟨oc, cc, by rw [hrc, HPV.out]; unfold polC; simp only; rw [HEL.out], ⟨hIR, by simp only; rw [← HN.out, ← HEL.out]; exact hcl, hcm, HPK.out⟩⟩
end Go.Proofs.YtkogafponpjdnaaGreatDoor

/- TopPolicy returns true. -/
namespace Go.Proofs.YtkogafponpjdnaaGreatDoor
open Go.RowKit Go.Sort

/-- What TopPolicy was handed, in boxes of its own. -/
structure TB (w : World) (n : Nat) (oa : Option Addr) (cap : Nat) (a : ACT) (k : KL) (v : VS) (X : World) : Prop where
  pol : ∀ j : Nat, X.cell? ⟨w.heap.size, j, none⟩ = (#[.slice oa n cap, .int .i64 a.kind, .int .i64 a.errno] : Array Value)[j]?
  call : ∀ j : Nat, X.cell? ⟨w.heap.size + 1, j, none⟩ = (klC k)[j]?
  vals : ∀ j : Nat, X.cell? ⟨w.heap.size + 2, j, none⟩ = (vsC v)[j]?
  lt : w.heap.size + 2 < X.heap.size
theorem TB.on {w : World} {n : Nat} {oa : Option Addr} {cap : Nat} {a : ACT} {k : KL} {v : VS} {X Y : World} (h : TB w n oa cap a k v X) (hb : Below X.heap.size X Y) : TB w n oa cap a k v Y := by
  have hl := h.lt
  exact ⟨fun j => ((bcell hb).1 _ j (by omega)).trans (h.pol j), fun j => ((bcell hb).1 _ j (by omega)).trans (h.call j), fun j => ((bcell hb).1 _ j (by omega)).trans (h.vals j), Nat.lt_of_lt_of_le hl hb.size⟩
theorem TB.p {w : World} {n : Nat} {oa : Option Addr} {cap : Nat} {a : ACT} {k : KL} {v : VS} {X : World} (h : TB w n oa cap a k v X) :
    X.cell? ⟨w.heap.size, 0, none⟩ = some (.slice oa n cap) ∧ X.cell? ⟨w.heap.size, 1, none⟩ = some (.int .i64 a.kind) ∧ X.cell? ⟨w.heap.size, 2, none⟩ = some (.int .i64 a.errno) := ⟨h.pol 0, h.pol 1, h.pol 2⟩
theorem TB.k {w : World} {n : Nat} {oa : Option Addr} {cap : Nat} {a : ACT} {k : KL} {v : VS} {X : World} (h : TB w n oa cap a k v X) :
    X.cell? ⟨w.heap.size + 1, 0, none⟩ = some (.int .u32 k.arch) ∧ X.cell? ⟨w.heap.size + 1, 1, none⟩ = some (.int .u32 k.nr) ∧ X.cell? ⟨w.heap.size + 1, 2, none⟩ = some (.int .u64 k.a0) ∧ X.cell? ⟨w.heap.size + 1, 3, none⟩ = some (.int .u64 k.a1) ∧ X.cell? ⟨w.heap.size + 1, 4, none⟩ = some (.int .u64 k.a2) ∧ X.cell? ⟨w.heap.size + 1, 5, none⟩ = some (.int .u64 k.a3) :=
  ⟨h.call 0, h.call 1, h.call 2, h.call 3, h.call 4, h.call 5⟩
theorem TB.v {w : World} {n : Nat} {oa : Option Addr} {cap : Nat} {a : ACT} {k : KL} {v : VS} {X : World} (h : TB w n oa cap a k v X) :
    X.cell? ⟨w.heap.size + 2, 0, none⟩ = some (.string v.v0.path) ∧ X.cell? ⟨w.heap.size + 2, 1, none⟩ = some (.int .u32 v.v0.ip) ∧ X.cell? ⟨w.heap.size + 2, 2, none⟩ = some (.int .i64 v.v0.port) ∧
    X.cell? ⟨w.heap.size + 2, 3, none⟩ = some (.string v.v1.path) ∧ X.cell? ⟨w.heap.size + 2, 4, none⟩ = some (.int .u32 v.v1.ip) ∧ X.cell? ⟨w.heap.size + 2, 5, none⟩ = some (.int .i64 v.v1.port) ∧
    X.cell? ⟨w.heap.size + 2, 6, none⟩ = some (.string v.v2.path) ∧ X.cell? ⟨w.heap.size + 2, 7, none⟩ = some (.int .u32 v.v2.ip) ∧ X.cell? ⟨w.heap.size + 2, 8, none⟩ = some (.int .i64 v.v2.port) ∧
    X.cell? ⟨w.heap.size + 2, 9, none⟩ = some (.string v.v3.path) ∧ X.cell? ⟨w.heap.size + 2, 10, none⟩ = some (.int .u32 v.v3.ip) ∧ X.cell? ⟨w.heap.size + 2, 11, none⟩ = some (.int .i64 v.v3.port) :=
  ⟨h.vals 0, h.vals 1, h.vals 2, h.vals 3, h.vals 4, h.vals 5, h.vals 6, h.vals 7, h.vals 8, h.vals 9, h.vals 10, h.vals 11⟩
theorem light_vals {v : VS} (h : lightV v = true) (hi : VsIn v) : VsOk v := by
  unfold lightV at h
  simp only [lightTo, Bool.true_and, Bool.and_eq_true] at h
  obtain ⟨⟨⟨h0, h1⟩, h2⟩, h3⟩ := h
  have key : ∀ i, i ≤ 3 → lightVL (v.at i) = true → VlOk (v.at i) := fun i hi3 hl => by
    obtain ⟨_, b, c⟩ := hi i hi3
    unfold lightVL at hl
    have := of_decide_eq_true hl
    exact ⟨by omega, b, c⟩
  exact ⟨key 0 (by omega) h0, key 1 (by omega) h1, key 2 (by omega) h2, key 3 (by omega) h3⟩
theorem IsPol.drop {b off cap : Nat} {p : POL} {W : World} (h : IsPol (some ⟨b, off, none⟩) cap p W) (i : Nat) : IsPol (some ⟨b, off + i * 4, none⟩) (cap - i) ⟨p.rules.drop i, p.els⟩ W := by
  refine ⟨⟨fun h0 => ?_⟩, ?_, by have := h.cap; omega, ⟨fun r hr => h.ok.rules r (List.mem_of_mem_drop hr), h.ok.els⟩⟩
  · simp only [List.length_drop] at h0
    obtain ⟨b', off', e, h1, h2⟩ := h.rules.lie (by omega)
    simp only [Option.some.injEq, Addr.mk.injEq] at e
    obtain ⟨rfl, rfl, _⟩ := e
    refine ⟨b, off + i * 4, rfl, h1, fun j r hj => ?_⟩
    simp only [List.getElem?_drop] at hj
    obtain ⟨ca, cc, hR⟩ := h2 (i + j) r hj
    rw [show off + (i + j) * 4 = off + i * 4 + j * 4 by omega] at hR
    exact ⟨ca, cc, hR⟩
  · simp only [List.length_drop]
    have := h.le
    omega
theorem IsPol.some {oa : Option Addr} {cap : Nat} {p : POL} {W : World} (h : IsPol oa cap p W) (h0 : 0 < p.rules.length) : ∃ b off, oa = some ⟨b, off, none⟩ := by
  obtain ⟨b, off, e, _⟩ := h.rules.lie h0
  exact ⟨b, off, e⟩

end Go.Proofs.YtkogafponpjdnaaGreatDoor

/- The document's digits of a number. -/
namespace Go.Proofs.YtkogafponpjdnaaGreatDoor
open Go.RowKit

theorem dec_small {k : Nat} (h : k < 10) : Lib.decDigits k = [UInt8.ofNat (48 + k)] := by rw [Lib.decDigits, dif_pos h]
theorem dec_big {k : Nat} (h : ¬ k < 10) : Lib.decDigits k = Lib.decDigits (k / 10) ++ [UInt8.ofNat (48 + k % 10)] := by rw [Lib.decDigits, dif_neg h]

/-- 'string([]byte{c})'. -/
theorem conv_one (W : World) (c : Nat) (hc : c < 256) (g : Nat) (hg : W.cell? ⟨g, 0, none⟩ = some (.int .u8 c)) : (convert 80 9 (.slice (some ⟨g, 0, none⟩) 1 1)).run Tryz.prog W = .ok (.string ⟨#[UInt8.ofNat c]⟩) W :=
  run_convert_bytes_back (P := Tryz.prog) W 80 9 5 ⟨g, 0, none⟩ 1 [UInt8.ofNat c] Tryz.underlying80 Tryz.underlying5 Tryz.underlying9 fun j hj => by
    obtain rfl : j = 0 := by simp at hj; omega
    rw [show (⟨g, 0, none⟩ : Addr).add 0 = ⟨g, 0, none⟩ by simp [Addr.add], hg]
    simp [UInt8.toNat_ofNat', Nat.mod_eq_of_lt hc]

theorem digits_any (n : Nat) (hn : n < 18446744073709551616) (w : World) : Calls Tryz.prog 50 #[.int .u64 n] w fun e w' => e = .returned (.string ⟨(Lib.decDigits n).toArray⟩) ∧ Below w.heap.size w w' := by
  have hlen : Lib.nDigits n ≤ 20 := Lib.nDigits_le20 n hn
  have HN := hide hn
  clear hn
  go_enter Tryz.func50, Tryz.ntmps50
  go_wp2
  go_loopw [0, 3] (fun a s w' => ∃ (x : Int) (t : ByteArray), 0 ≤ x ∧ a = .int .u64 x ∧ s = .string t ∧ t.size ≤ 20 ∧ Hid (x < 18446744073709551616 ∧ Lib.decDigits n = Lib.decDigits x.toNat ++ t.data.toList) ∧ Hid (Below w.heap.size w w')) (fun a _ _ => (intOf a).toNat)
  case atStart => exact ⟨n, ⟨#[]⟩, by omega, rfl, rfl, by decide, hide ⟨by have := HN.out; omega, by simp⟩, hide (Below.refl _ _)⟩
  case round =>
    obtain ⟨x, t, hx0, rfl, rfl, ht, HD, HB⟩ := hrel
    have hr0 : 0 ≤ x % 10 := by omega
    have hr1 : x % 10 < 10 := by omega
    obtain ⟨c, hc⟩ : ∃ c : Nat, (c : Int) = 48 + x % 10 := ⟨(48 + x % 10).toNat, by omega⟩
    have hc1 : c < 256 := by omega
    have cv : (convert 80 9 (.slice (some ⟨wr.heap.size, 0, none⟩) 1 1)).run Tryz.prog (wr.alloc (.cells #[.int .u8 (48 + x % 10)] 5)) = .ok (.string ⟨#[UInt8.ofNat c]⟩) (wr.alloc (.cells #[.int .u8 (48 + x % 10)] 5)) := by
      refine conv_one _ c hc1 _ ?_
      rw [hc]
      exact World.cell?_alloc_at _ _ _ _ rfl
    obtain ⟨q, hq⟩ : ∃ q : Int, q = x / 10 := ⟨_, rfl⟩
    have hw : IntKind.u64.wrap (x.tdiv 10) = q := by
      have h1 := HD.out.1
      rw [Int.tdiv_eq_ediv_of_nonneg hx0, IntKind.wrap_u64, hq]
      omega
    have hq0 : 0 ≤ q := by omega
    by_cases hs : x < 10
    · have bz : (q == 0) = true := by rw [beq_iff_eq]; omega
      have HF := hide (show Lib.decDigits n = [UInt8.ofNat c] ++ t.data.toList by
        rw [HD.out.2, dec_small (by omega), show 48 + x.toNat = c by omega])
      have HC := hide hc
      clear hc hs hq
      go_wp2
      go_ret
      refine ⟨?_, HB.out.alloc HB.out.size _⟩
      rw [HF.out]
      show Ending.returned (Value.string (⟨#[UInt8.ofNat c]⟩ ++ t)) = _
      congr 2
    · have bz : (q == 0) = false := by rw [beq_eq_false_iff_ne]; omega
      have HF := hide (show q < 18446744073709551616 ∧ Lib.decDigits n = Lib.decDigits q.toNat ++ ([UInt8.ofNat c] ++ t.data.toList) by
        have h1 := HD.out.1
        refine ⟨by omega, ?_⟩
        rw [HD.out.2, dec_big (by omega), show 48 + x.toNat % 10 = c by omega, show q.toNat = x.toNat / 10 by omega, List.append_assoc])
      have HC := hide hc
      have HM := hide (show q.toNat < x.toNat by omega)
      clear hc hq
      go_wp2
      go_round
      case rel =>
        refine ⟨q, _, hq0, rfl, rfl, ?_, hide ⟨HF.out.1, ?_⟩, hide (HB.out.alloc HB.out.size _)⟩
        · have h1 := congrArg List.length HF.out.2
          rw [Lib.decDigits_length, List.length_append, List.length_append] at h1
          rw [ByteArray.size_append, Lib.size_eq t]
          have h3 : (ByteArray.mk #[UInt8.ofNat c]).size = 1 := rfl
          have h4 : [UInt8.ofNat c].length = 1 := rfl
          omega
        · rw [HF.out.2]
          congr 1
      case measure =>
        have := HM.out
        simp [intOf]
        omega
end Go.Proofs.YtkogafponpjdnaaGreatDoor

/- The document's text of a net. -/
namespace Go.Proofs.YtkogafponpjdnaaGreatDoor
open Go.RowKit Go.Sort

theorem u64_and255 (x : Nat) (hx : x < 4294967296) : bits .and .u64 (x : Int) 255 = ((x % 256 : Nat) : Int) := by
  rw [show (255 : Int) = ((255 : Nat) : Int) from rfl, u64_and_nat x 255 (by omega) (by decide)]
  exact congrArg _ (Nat.and_two_pow_sub_one_eq_mod x 8)

/-- What is kept of the world: the net in its block. -/
def BX (w : World) (ip : Nat) (b lo hi : Int) (V : World) : Prop := Below w.heap.size w V ∧ V.heap[w.heap.size]? = some (.cells #[.int .u32 ip, .int .i64 b, .int .i64 lo, .int .i64 hi] 67 (0, 0))
theorem BX.start (w : World) (ip : Nat) (b lo hi : Int) : BX w ip b lo hi (w.alloc (.cells #[.int .u32 ip, .int .i64 b, .int .i64 lo, .int .i64 hi] 67)) :=
  ⟨(Below.refl _ _).alloc (Nat.le_refl _) _, heap_alloc_new w _⟩
theorem BX.on {w : World} {ip : Nat} {b lo hi : Int} {V Y : World} (h : BX w ip b lo hi V) (hb : Below V.heap.size V Y) : BX w ip b lo hi Y :=
  ⟨h.1.trans (hb.mono h.1.size), (hb.block _ (Array.getElem?_eq_some_iff.1 h.2).1).trans h.2⟩
theorem BX.cells {w : World} {ip : Nat} {b lo hi : Int} {V : World} (h : BX w ip b lo hi V) : V.cell? ⟨w.heap.size, 0, none⟩ = some (.int .u32 ip) ∧ V.cell? ⟨w.heap.size, 1, none⟩ = some (.int .i64 b) ∧ V.cell? ⟨w.heap.size, 2, none⟩ = some (.int .i64 lo) ∧ V.cell? ⟨w.heap.size, 3, none⟩ = some (.int .i64 hi) :=
  ⟨cell_of_row _ _ 0 _ _ _ h.2, cell_of_row _ _ 1 _ _ _ h.2, cell_of_row _ _ 2 _ _ _ h.2, cell_of_row _ _ 3 _ _ _ h.2⟩

/-- The text of the first k numbers of the address. -/
def preK (ns : List Nat) : Nat → List UInt8
  | 0 => []
  | k + 1 => textK ns k

theorem and_byte (ip k : Nat) (hip : ip < 4294967296) : bits .and .u64 (IntKind.u64.wrap ((ip : Int) / 2 ^ (24 - 8 * k))) 255 = ((ipB ip k : Nat) : Int) := by
  have e : ((ip : Int) / 2 ^ (24 - 8 * k)) = ((ip / 2 ^ (24 - 8 * k) : Nat) : Int) := by simp
  have h1 : ip / 2 ^ (24 - 8 * k) ≤ ip := Nat.div_le_self _ _
  rw [e]
  unfold ipB
  generalize ip / 2 ^ (24 - 8 * k) = y at h1
  rw [IntKind.wrap_u64, show (y : Int) % 18446744073709551616 = y by omega, u64_and255 _ (by omega)]
theorem ipB_num (ip b lo hi k : Nat) (hip : ip < 4294967296) (hk : k < 4) : ipB ip k = (netNums ip b lo hi).getD k 0 := by
  rw [← numsK_end ip b lo hi hip]
  match k, hk with
  | 0, _ => rfl
  | 1, _ => rfl
  | 2, _ => rfl
  | 3, _ => rfl

theorem dots (j : Nat) (hj : j < 3) : signsL.getD j 0 = 46 := by
  match j, hj with
  | 0, _ => rfl
  | 1, _ => rfl
  | 2, _ => rfl
theorem nums_lt {ip b lo hi : Nat} (hf : faultOf ip b lo hi = 0) (hip : ip < 4294967296) (k : Nat) : (netNums ip b lo hi).getD k 0 < 100000 := by
  obtain ⟨h1, h2, _⟩ := fault_ok hf
  exact getD_lt (fun n hn => by
      simp only [netNums, List.mem_cons, List.not_mem_nil, or_false] at hn
      omega) k
theorem preK_len {ip b lo hi : Nat} (hf : faultOf ip b lo hi = 0) (hip : ip < 4294967296) (k : Nat) (hk : k ≤ 4) : (ByteArray.mk (preK (netNums ip b lo hi) k).toArray).size ≤ 6 * k := by
  match k, hk with
  | 0, _ => exact Nat.le_refl _
  | k + 1, hk =>
    have := textK_len (netNums ip b lo hi) rfl (nums_lt hf hip) k (by omega)
    show (textK _ k).toArray.size ≤ _
    rw [List.size_toArray]
    exact this

theorem digits_in (V : World) (n : Nat) (hn : n < 100000) : ∃ d : ByteArray, Hid (d = ⟨(Lib.decDigits n).toArray⟩) ∧ d.size ≤ 5 ∧ ∀ q os, Calls Tryz.prog 50 #[.int .u64 n] (grow (redrawn V q) os) fun e w'' => e = .returned (.string d) ∧ ∃ p : Regrown, w'' = grow (redrawn V p.d) p.os := by
  refine ⟨_, hide rfl, ?_, fun q os => Calls.regrown_of (digits_any n (by omega) _)⟩
  have := nDigits_le5 n hn
  rw [← Lib.decDigits_length] at this
  simpa [ByteArray.size] using this

theorem netText_any (ip : Nat) (hip : ip < 4294967296) (b lo hi : Nat) (hf : faultOf ip b lo hi = 0) (w : World) :
    Calls Tryz.prog 51 #[netV ip b lo hi] w fun e w' => e = .returned (.string ⟨(netText ip b lo hi).toArray⟩) ∧ Below w.heap.size w w' := by
  have HS := hide (BX.start w ip b lo hi)
  have HF := hide hf
  clear hf
  go_enter Tryz.func51, Tryz.ntmps51
  go_wp2
  go_loopw [3, 4] (fun s i w' => ∃ (k : Nat) (t : ByteArray), k ≤ 4 ∧ i = .int .i64 k ∧ s = .string t ∧ t.size ≤ 100 ∧ Hid (t = ⟨(preK (netNums ip b lo hi) k).toArray⟩) ∧ Hid (BX w ip b lo hi w')) (fun _ i _ => 4 - (intOf i).toNat)
  case atStart => exact ⟨0, ⟨#[]⟩, by omega, rfl, rfl, by decide, hide rfl, HS⟩
  case round =>
    obtain ⟨k, t, hk, rfl, rfl, ht, HT, HB⟩ := hrel
    obtain ⟨c0, c1, c2, c3⟩ := HB.out.cells
    by_cases hlt : k < 4
    · have hbits := and_byte ip k hip
      have ld := ipB_lt ip k
      obtain ⟨n, hn⟩ : ∃ n, n = ipB ip k := ⟨_, rfl⟩
      rw [← hn] at hbits ld
      obtain ⟨dk, hdk⟩ : ∃ d : ByteArray, d = ⟨(Lib.decDigits n).toArray⟩ := ⟨_, rfl⟩
      have ldk : dk.size ≤ 5 := by have := nDigits_le5 n (by omega); rw [← Lib.decDigits_length] at this; rw [hdk]; simpa [ByteArray.size] using this
      have HD : ∀ V, Calls Tryz.prog 50 #[.int .u64 n] V fun e w' => e = .returned (.string dk) ∧ Below V.heap.size V w' := fun V => (digits_any n (by omega) V).mono fun e w' h => by rw [← hdk] at h; exact h
      have HN := hide (show n = (netNums ip b lo hi).getD k 0 by rw [hn]; exact ipB_num ip b lo hi k hip hlt)
      have HDK := hide hdk
      clear hn hdk
      by_cases hz : 0 < k
      · go_wp2_with (go_at_call 50; refine (HD _).mono ?_; rintro e V ⟨rfl, hV⟩)
        go_round
        case rel =>
          refine ⟨k + 1, _, by omega, by go_num, rfl, ?_, hide ?_, hide (HB.out.on hV)⟩
          · rw [ByteArray.size_append, ByteArray.size_append]
            have h3 : (ByteArray.mk #[46]).size = 1 := rfl
            have h4 : t.size ≤ 6 * k := by rw [HT.out]; exact preK_len HF.out hip k hk
            omega
          · rw [HT.out, HDK.out, HN.out]
            obtain ⟨j, rfl⟩ : ∃ j, k = j + 1 := ⟨k - 1, by omega⟩
            apply ByteArray.ext
            rw [show preK (netNums ip b lo hi) (j + 1 + 1) = textK (netNums ip b lo hi) (j + 1) from rfl, textK_succ _ rfl j (by omega), show preK (netNums ip b lo hi) (j + 1) = textK (netNums ip b lo hi) j from rfl, show signsL.getD j 0 = 46 from dots j (by omega)]
            simp [ByteArray.data_append]
        case measure => simp [intOf]; omega
      · obtain rfl : k = 0 := by omega
        have hb0 : bits .and .u64 ((ip : Int) / 16777216) 255 = (n : Int) := by
          have h2 : IntKind.u64.wrap ((ip : Int) / 16777216) = (ip : Int) / 16777216 := by rw [IntKind.wrap_u64]; omega
          rw [← h2]
          simpa using hbits
        clear hbits
        go_wp2_with (go_at_call 50; refine (HD _).mono ?_; rintro e V ⟨rfl, hV⟩)
        go_round
        case rel =>
          refine ⟨1, _, by omega, by go_num, rfl, ?_, hide ?_, hide (HB.out.on hV)⟩
          · rw [ByteArray.size_append]
            have h4 : t.size ≤ 6 * 0 := by rw [HT.out]; exact preK_len HF.out hip 0 hk
            omega
          · rw [HT.out, HDK.out, HN.out]
            apply ByteArray.ext
            rw [show preK (netNums ip b lo hi) 1 = textK (netNums ip b lo hi) 0 from rfl, textK_zero _ rfl]
            simp [ByteArray.data_append, preK]
        case measure => simp [intOf]
    · obtain rfl : k = 4 := by omega
      have h4 : t.size ≤ 6 * 4 := by rw [HT.out]; exact preK_len HF.out hip 4 hk
      obtain ⟨q1, q2, _⟩ := fault_ok HF.out
      have wb : IntKind.u64.wrap (b : Int) = b := by rw [IntKind.wrap_u64]; omega
      have wl : IntKind.u64.wrap (lo : Int) = lo := by rw [IntKind.wrap_u64]; omega
      have wh : IntKind.u64.wrap (hi : Int) = hi := by rw [IntKind.wrap_u64]; omega
      obtain ⟨dB, HDB, lB, cB⟩ := digits_in wr b (by omega)
      obtain ⟨dL, HDL, lL, cL⟩ := digits_in wr lo (by omega)
      obtain ⟨dH, HDH, lH, cH⟩ := digits_in wr hi (by omega)
      have z1 : ¬ 9223372036854775807 < t.size + 1 := by omega
      have z2 : ¬ 9223372036854775807 < t.size + 1 + dB.size := by omega
      have z3 : ¬ 9223372036854775807 < t.size + 1 + dB.size + 1 := by omega
      have z4 : ¬ 9223372036854775807 < t.size + 1 + dB.size + 1 + dL.size := by omega
      have z5 : ¬ 9223372036854775807 < t.size + 1 + dB.size + 1 + dL.size + 1 := by omega
      have z6 : ¬ 9223372036854775807 < t.size + 1 + dB.size + 1 + dL.size + 1 + dH.size := by omega
      have g1 := cell_regrown c1
      have g2 := cell_regrown c2
      have g3 := cell_regrown c3
      clear h4 q1 q2 lB lL lH ht
      go_wp2
      refine wp_region_quiet_below (by kernel_rfl) (by kernel_rfl) ?_
      repeat (go_big_quiet_step (first | (go_at_call_of 50 (Value.int IntKind.u64 (b : Int)); exact cB _ _) | (go_at_call_of 50 (Value.int IntKind.u64 (lo : Int)); exact cL _ _) | (go_at_call_of 50 (Value.int IntKind.u64 (hi : Int)); exact cH _ _)))
      refine wpQuiet_nil ?_
      intro _ hw'
      obtain ⟨⟨dq, osq⟩, hw''⟩ := hw'
      subst hw''
      go_wp2
      go_ret
      refine ⟨?_, (HB.out.on (below_regrown _ _ _)).1⟩
      rw [← textK_all rfl, textK_succ _ rfl 5 (by omega), textK_succ _ rfl 4 (by omega), textK_succ _ rfl 3 (by omega)]
      show Ending.returned (Value.string (t ++ ⟨#[47]⟩ ++ dB ++ ⟨#[58]⟩ ++ dL ++ ⟨#[45]⟩ ++ dH)) = _
      rw [HT.out, HDB.out, HDL.out, HDH.out]
      congr 2
      apply ByteArray.ext
      simp [ByteArray.data_append, preK, signsL, netNums]
end Go.Proofs.YtkogafponpjdnaaGreatDoor
