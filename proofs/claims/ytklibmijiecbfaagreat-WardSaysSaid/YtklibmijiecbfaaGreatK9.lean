/- policy.Check: a policy. -/
import Derived.Test.YtklibmijiecbfaaGreatK8
import Derived.Test.YtklibmijiecbfaaGreatK5
import Derived.Test.YtklibmijiecbfaaGreatK3
import Derived.Laws.Slices
import Derived.Test.YtklibmijiecbfaaGreatK2
import Derived.Laws.ResultCell
import Derived.Laws.CopyOwn
import Derived.Test.YtklibmijiecbfaaGreatK7
import Derived.Lib.QuietBelow
import Derived.Lib.SplitLaws
import Derived.Lib.IndexBytes
import Derived.Deep.AppendLies
import Derived.Lib.SmallJoins
import Derived.Deep.RegionLaw
namespace Go.Proofs.YtklibmijiecbfaaGreat
open Go.RowKit Go.Sort

theorem pol_parts {oa : Option Addr} {cap : Nat} {p : POL} {w : World} (h : IsPol oa cap p w) (n : Nat) (hn : n = p.rules.length) : 0 < n → ∃ b off, oa = some ⟨b, off, none⟩ ∧ b < w.heap.size ∧ Hid (∀ i r, p.rules[i]? = some r → ∃ ca ccap, RuleAt w b (off + i * 4) r ca ccap) := fun h0 => by
 obtain ⟨b, off, q1, q2, q3⟩ := h.rules.lie (by omega)
 exact ⟨b, off, q1, q2, hide q3⟩

set_option maxHeartbeats 4000000 in
theorem pcheck_any (p : POL) (oa : Option Addr) (cap : Nat) (w : World) (h : IsPol oa cap p w) :
  Calls Tryz.prog 19 #[polV p oa cap] w fun e w' => e = .returned (errV (polF p)) ∧ Below w.heap.size w w' := by
 obtain ⟨n, hn⟩ : ∃ n, n = p.rules.length := ⟨_, rfl⟩
 have HC := hide (pol_parts h n hn)
 have hmax : n ≤ 9223372036854775807 := by have h1 := h.le; have h2 := h.cap; unfold maxLen at h2; omega
 clear h
 obtain ⟨rs, ⟨ak, ae⟩⟩ := p
 unfold polV
 simp only at HC hn ⊢
 rw [← hn]
 have hf0 : polF ⟨rs, ⟨ak, ae⟩⟩ = if 12 < n then 2 else if actF ⟨ak, ae⟩ = 0 then firstF (rs.map ruleF) else actF ⟨ak, ae⟩ := by rw [hn]; rfl
 by_cases h4 : 12 < n
 ·
  have HF := hide (hf0.trans (if_pos h4))
  clear hf0 hn
  go_enter Tryz.func19, Tryz.ntmps19
  go_wp2
  go_ret
  exact ⟨by rw [HF.out]; rfl, box_below _ _⟩
 rw [if_neg h4] at hf0
 have HA := checkAction_any ⟨ak, ae⟩
 obtain ⟨f0, hf⟩ : ∃ f, f = actF ⟨ak, ae⟩ := ⟨_, rfl⟩
 rw [← hf] at HA hf0
 have HF := hide hf0
 have HN := hide hn
 have HL := hide (show ∀ i, i < n → ∃ c, rs[i]? = some c ∧ rs.take (i + 1) = rs.take i ++ [c] from fun i h => take_next (by omega))
 clear hf0 hn hf
 unfold actV at HA
 simp only at HA
 by_cases hz0 : f0 = 0
 ·
  subst hz0
  rw [if_pos rfl] at HF
  rw [errV_zero] at HA
  go_enter Tryz.func19, Tryz.ntmps19
  obtain ⟨V, hV, hB, hsz, hx⟩ := one_box w #[.slice oa n cap, .int .i64 ak, .int .i64 ae] 26
  go_wp2_with (go_at_call 42; rw [← hV]; clear hV; refine (HA _).mono ?_; rintro e X ⟨rfl, hX⟩; have k0 := keep_cell hX (hx 0); have k1 := keep_cell hX (hx 1); have k2 := keep_cell hX (hx 2))
  go_loopw [20] (fun I w' => ∃ i : Nat, i ≤ n ∧ I = .int .i64 i ∧ Hid (Below X.heap.size X w') ∧ Hid (firstF ((rs.take i).map ruleF) = 0)) (fun I _ => n - (intOf I).toNat)
  case atStart => exact ⟨0, by omega, rfl, hide (Below.refl _ _), hide rfl⟩
  case round =>
   obtain ⟨i, hi, rfl, HB, HG⟩ := hrel
   have HW := hide (below_next (below_next hB hX) HB.out)
   by_cases hlt : i < n
   ·
    obtain ⟨c, hcs, hcat⟩ := HL.out i hlt
    obtain ⟨b, off, rfl, hbw, HA2⟩ := HC.out (by omega)
    obtain ⟨ca, cc, hR0⟩ := HA2.out i c hcs
    have hR := hR0.on hbw HW.out
    clear hR0
    obtain ⟨f, hf⟩ : ∃ f, f = ruleF c := ⟨_, rfl⟩
    have HQ := hide (show firstF ((rs.take (i + 1)).map ruleF) = f by rw [hcat, List.map_append, firstF_append, if_pos HG.out, hf]; exact firstF_one _)
    have HCC := checkRule_any c ca cc wr hR.conds hR.ok ⟨hR.le, hR.cap⟩
    rw [← hf] at HCC
    obtain ⟨a0, a1, a2, a3, _, _, _, _⟩ := hR
    clear hf hcs hcat
    have g0 := keep_cell HB.out k0
    obtain ⟨nr, cs, ⟨rk, re⟩⟩ := c
    unfold ruleV at HCC
    simp only at a0 a1 a2 a3 HCC
    by_cases hz : f = 0
    ·
     subst hz
     rw [errV_zero] at HCC
     go_wp2_with (go_at_call 43; refine HCC.mono ?_; rintro e w1 ⟨rfl, hb1⟩)
     go_round
     case rel => exact ⟨i + 1, by omega, by go_num, hide (below_next HB.out hb1), HQ⟩
     case measure => simp [intOf]; omega
    ·
     rw [errV_pos hz] at HCC
     have HE := hide (show polF ⟨rs, ⟨ak, ae⟩⟩ = f by
      have h1 : firstF (rs.map ruleF) = f := by
       rw [← List.take_append_drop (i + 1) rs, List.map_append, firstF_append, if_neg (by rw [HQ.out]; exact hz), HQ.out]
      rw [HF.out, h1])
     go_wp2_with (go_at_call 43; refine HCC.mono ?_; rintro e w1 ⟨rfl, hb1⟩)
     go_ret
     exact ⟨by rw [HE.out, errV_pos hz]; rfl, below_next HW.out hb1⟩
   ·
    obtain rfl : i = n := by omega
    have HE := hide (show polF ⟨rs, ⟨ak, ae⟩⟩ = 0 by
     have := HG.out
     rw [List.take_of_length_le (by rw [HN.out]; exact Nat.le_refl _)] at this
     rw [HF.out, this])
    go_wp2
    go_ret
    exact ⟨by rw [HE.out]; rfl, HW.out⟩
 ·
  rw [if_neg hz0] at HF
  rw [errV_pos hz0] at HA
  go_enter Tryz.func19, Tryz.ntmps19
  go_wp2_with (go_at_call 42; refine (HA _).mono ?_; rintro e X ⟨rfl, hX⟩)
  go_ret
  exact ⟨by rw [HF.out, errV_pos hz0]; rfl, below_next (box_below _ _) hX⟩
end Go.Proofs.YtklibmijiecbfaaGreat

/- What the library's variables hold. -/
namespace Go.Proofs.YtklibmijiecbfaaGreat
open Go.RowKit Go.Sort

def bs (l : W8) : ByteArray := ⟨l.toArray⟩
theorem bs_size (l : W8) : (bs l).size = l.length := by unfold bs; simp [ByteArray.size]
theorem bs_append (a b : W8) : bs a ++ bs b = bs (a ++ b) := by
 apply ByteArray.ext
 simp [bs, ByteArray.data_append]
theorem bs_data (l : W8) : (bs l).data.toList = l := by unfold bs; simp
theorem bs_of (g : ByteArray) : bs g.data.toList = g := by unfold bs; simp

end Go.Proofs.YtklibmijiecbfaaGreat

/- A byte of an address. -/
namespace Go.Proofs.YtklibmijiecbfaaGreat
open Go.RowKit

def ipB (ip i : Nat) : Nat := ip / 2 ^ (24 - 8 * i) % 256

theorem ipByte_any (ip i : Nat) (_hip : ip < 4294967296) (hi : i ≤ 3) (w : World) : Calls Tryz.prog 126 #[.int .u32 ip, .int .i64 i] w fun e w' => e = .returned (.int .u8 (ipB ip i)) ∧ w' = w := by
 go_enter Tryz.func126, Tryz.ntmps126
 go_wp2
 go_ret
 refine ⟨?_, rfl⟩
 refine ret_int ?_
 unfold ipB
 simp
theorem ipB_lt (ip i : Nat) : ipB ip i < 256 := Nat.mod_lt _ (by decide)
end Go.Proofs.YtklibmijiecbfaaGreat

/- addr.number: digits read. -/
namespace Go.Proofs.YtklibmijiecbfaaGreat
open Go.RowKit

end Go.Proofs.YtklibmijiecbfaaGreat

/- addr.split: the numbers of a net's text. -/
namespace Go.Proofs.YtklibmijiecbfaaGreat
open Go.RowKit

end Go.Proofs.YtklibmijiecbfaaGreat

/- addr.Parse. -/
namespace Go.Proofs.YtklibmijiecbfaaGreat
open Go.RowKit

end Go.Proofs.YtklibmijiecbfaaGreat

/- addr.numbers. -/
namespace Go.Proofs.YtklibmijiecbfaaGreat
open Go.RowKit

end Go.Proofs.YtklibmijiecbfaaGreat

/- addr.Text. -/
namespace Go.Proofs.YtklibmijiecbfaaGreat
open Go.RowKit Go.Sort

end Go.Proofs.YtklibmijiecbfaaGreat

/- policy.Text: a cond. -/
namespace Go.Proofs.YtklibmijiecbfaaGreat
open Go.RowKit Go.Sort

end Go.Proofs.YtklibmijiecbfaaGreat

/- policy.Text: rules, and a policy. -/
namespace Go.Proofs.YtklibmijiecbfaaGreat
open Go.RowKit Go.Sort

end Go.Proofs.YtklibmijiecbfaaGreat

/- policy.Text: the walks over rules, and over a policy. -/
namespace Go.Proofs.YtklibmijiecbfaaGreat
open Go.RowKit Go.Sort

theorem conds_parts {oa : Option Addr} {cs : List CD} {w : World} (hc : IsConds oa cs w) (n : Nat) (hn : n = cs.length) : 0 < n → ∃ b off, oa = some ⟨b, off, none⟩ ∧ b < w.heap.size ∧ Hid (∀ i c, cs[i]? = some c → CondAt w b (off + i * 9) c) := fun h => by
 obtain ⟨b, off, q1, q2, q3⟩ := hc.lie (by omega)
 exact ⟨b, off, q1, q2, hide q3⟩
end Go.Proofs.YtklibmijiecbfaaGreat

/- Words of a line, taken off one by one. -/
namespace Go.Proofs.YtklibmijiecbfaaGreat
open Go.RowKit Go.Sort

structure But (g : Nat) (w w' : World) : Prop where
 os : w'.os = w.os
 tape : w'.tape = w.tape
 output : w'.output = w.output
 size : w.heap.size ≤ w'.heap.size
 block : ∀ k, k < w.heap.size → k ≠ g → w'.heap[k]? = w.heap[k]?
theorem But.below {B g : Nat} {a w w' : World} (h : Below B a w) (hg : B ≤ g) (hB : B ≤ w.heap.size) (k : But g w w') : Below B a w' :=
 h.trans ⟨k.os, k.tape, k.output, k.size, fun i hi => k.block i (by omega) (by omega)⟩
theorem But.set (g o : Nat) (w : World) (v : Value) : But g w (w.setCell ⟨g, o, none⟩ v) := ⟨rfl, rfl, rfl, by simp [World.setCell], fun k _ hn => Below.heap_setCell _ _ _ _ hn⟩
theorem cell_heap {w w' : World} {b : Nat} (h : w'.heap[b]? = w.heap[b]?) (o : Nat) : w'.cell? ⟨b, o, none⟩ = w.cell? ⟨b, o, none⟩ := by
 unfold World.cell?
 simp only [h]
/-! Numbers. -/
end Go.Proofs.YtklibmijiecbfaaGreat

/- Names and signs found; a text cloned. -/
namespace Go.Proofs.YtklibmijiecbfaaGreat
open Go.RowKit Go.Sort

end Go.Proofs.YtklibmijiecbfaaGreat

/- readAction. -/
namespace Go.Proofs.YtklibmijiecbfaaGreat
open Go.RowKit Go.Sort

theorem row_heap (X : World) (r k : Nat) (cs : Array Value) (h : k ≠ r) : (X.setRow r cs).heap[k]? = X.heap[k]? := setRow_other _ _ _ _ h
theorem row_size (X : World) (r : Nat) (cs : Array Value) : (X.setRow r cs).heap.size = X.heap.size := by simp [World.setRow]
theorem size_action : (Tryz.prog.info? 24).map (·.size) = some 2 := by kernel_rfl

theorem one2 (a b : Int) : (#[.int .i64 a, .int .i64 b] : Array Value).all (·.oneCell') = true := by simp [Value.oneCell']
end Go.Proofs.YtklibmijiecbfaaGreat

/- readCond. -/
namespace Go.Proofs.YtklibmijiecbfaaGreat
open Go.RowKit Go.Sort

def condC (c : CD) : Array Value := #[.int .i64 c.arg, .int .i64 c.op, .int .u64 c.v, .int .u64 c.m, .string c.glob, .int .u32 c.net.ip, .int .i64 c.net.bits, .int .i64 c.net.lo, .int .i64 c.net.hi]
def zeroCD : CD := ⟨0, 0, 0, 0, ⟨#[]⟩, noNet⟩
theorem size_cond : (Tryz.prog.info? 47).map (·.size) = some 9 := by kernel_rfl
end Go.Proofs.YtklibmijiecbfaaGreat

/- strings.Split at one byte. -/
namespace Go.Proofs.YtklibmijiecbfaaGreat
open Go.RowKit Go.Sort

end Go.Proofs.YtklibmijiecbfaaGreat

/- readRule. -/
namespace Go.Proofs.YtklibmijiecbfaaGreat
open Go.RowKit Go.Sort

def flatC (cs : List CD) : List Value := cs.flatMap fun c => (condC c).toList
theorem flatC_len : ∀ cs : List CD, (flatC cs).length = cs.length * 9
 | [] => rfl
 | c :: r => by
  have := flatC_len r
  simp only [flatC, List.flatMap_cons, List.length_append, List.length_cons] at this ⊢
  rw [this, show (condC c).toList.length = 9 from rfl]
  omega
theorem flatC_get : ∀ (cs : List CD) (i : Nat) (c : CD) (j : Nat), cs[i]? = some c → j < 9 → (flatC cs)[i * 9 + j]? = (condC c).toList[j]?
 | [], i, c, j, h, _ => by simp at h
 | x :: r, 0, c, j, h, hj => by
  simp only [List.getElem?_cons_zero, Option.some.injEq] at h
  subst h
  simp only [flatC, List.flatMap_cons]
  rw [List.getElem?_append_left (by rw [show (condC x).toList.length = 9 from rfl]; omega)]
  congr 1
  omega
 | x :: r, i + 1, c, j, h, hj => by
  rw [List.getElem?_cons_succ] at h
  have ih := flatC_get r i c j h hj
  simp only [flatC, List.flatMap_cons] at ih ⊢
  rw [List.getElem?_append_right (by rw [show (condC x).toList.length = 9 from rfl]; omega), show (condC x).toList.length = 9 from rfl, show (i + 1) * 9 + j - 9 = i * 9 + j by omega]
  exact ih
theorem info_cond : ∃ i, Tryz.prog.info? 47 = some i ∧ i.zero = some (.agg (condC zeroCD)) ∧ i.size = 9 ∧ i.bytes = 80 := by
 have hz : (Tryz.prog.info? 47).map (·.zero) = some (some (.agg (condC zeroCD))) := by kernel_rfl
 have hs : (Tryz.prog.info? 47).map (·.size) = some 9 := by kernel_rfl
 have hb : (Tryz.prog.info? 47).map (·.bytes) = some 80 := by kernel_rfl
 cases hq : Tryz.prog.info? 47 with
 | none => rw [hq] at hs; simp at hs
 | some i =>
  rw [hq] at hz hs hb
  simp at hz hs hb
  exact ⟨i, rfl, hz, hs, hb⟩
theorem size_rule : (Tryz.prog.info? 41).map (·.size) = some 4 := by kernel_rfl

def ruleC (nr : Int) (sv : Value) (a : ACT) : Array Value := #[.int .i64 nr, sv, .int .i64 a.kind, .int .i64 a.errno]
theorem But.grown {g : Nat} {w w' : World} (h : But g w w') : w.grownBy w' (some g) := ⟨h.os, h.tape, h.output, h.size, fun k hk hn => h.block k hk (fun e => hn (by rw [e]))⟩
end Go.Proofs.YtklibmijiecbfaaGreat

/- readRule: the walk. -/
namespace Go.Proofs.YtklibmijiecbfaaGreat
open Go.RowKit Go.Sort

end Go.Proofs.YtklibmijiecbfaaGreat

/- read: the laws. -/
namespace Go.Proofs.YtklibmijiecbfaaGreat
open Go.RowKit Go.Sort

abbrev RE := RL × Option Addr × Nat
def ruleE (e : RE) : Array Value := ruleC e.1.nr (.slice e.2.1 e.1.conds.length e.2.2) e.1.act
def flatR (es : List RE) : List Value := es.flatMap fun e => (ruleE e).toList
theorem flatR_snoc (es : List RE) (e : RE) : flatR (es ++ [e]) = flatR es ++ (ruleE e).toList := by simp [flatR]
theorem flatR_get : ∀ (es : List RE) (i : Nat) (e : RE) (j : Nat), es[i]? = some e → j < 4 → (flatR es)[i * 4 + j]? = (ruleE e).toList[j]?
 | [], i, e, j, h, _ => by simp at h
 | x :: r, 0, e, j, h, hj => by
  simp only [List.getElem?_cons_zero, Option.some.injEq] at h
  subst h
  simp only [flatR, List.flatMap_cons]
  rw [List.getElem?_append_left (by rw [show (ruleE x).toList.length = 4 from rfl]; omega)]
  congr 1
  omega
 | x :: r, i + 1, e, j, h, hj => by
  rw [List.getElem?_cons_succ] at h
  have ih := flatR_get r i e j h hj
  simp only [flatR, List.flatMap_cons] at ih ⊢
  rw [List.getElem?_append_right (by rw [show (ruleE x).toList.length = 4 from rfl]; omega), show (ruleE x).toList.length = 4 from rfl, show (i + 1) * 4 + j - 4 = i * 4 + j by omega]
  exact ih
theorem IsConds.heap {oa : Option Addr} {cs : List CD} {W V : World} (h : IsConds oa cs W) (hb : ∀ b off, oa = some ⟨b, off, none⟩ → b < W.heap.size → V.heap[b]? = W.heap[b]?) (hs : W.heap.size ≤ V.heap.size) : IsConds oa cs V :=
 ⟨fun h0 => by
  obtain ⟨b, off, h1, h2, h3⟩ := h.lie h0
  exact ⟨b, off, h1, Nat.lt_of_lt_of_le h2 hs, fun i c hi => (h3 i c hi).on fun j => cell_heap (hb b off h1 h2) j⟩⟩
def CondsOk (r5 : Nat) (sv : Value) (es : List RE) (X : World) : Prop := ∀ e ∈ es, RlOk e.1 ∧ IsConds e.2.1 e.1.conds X ∧ e.1.conds.length ≤ e.2.2 ∧ e.2.2 ≤ maxLen ∧ ∀ b off, e.2.1 = some ⟨b, off, none⟩ → r5 < b ∧ sv.ownBlock ≠ some b ∧ b < X.heap.size
theorem rules_owned {W : World} {base r5 : Nat} {v : Value} {es : List RE} (h : W.ownsRow base 41 4 v es.length (flatR es)) (hc : CondsOk r5 v es W) : ∃ oa cap, v = .slice oa es.length cap ∧ es.length ≤ cap ∧ cap ≤ maxLen ∧ IsRules oa (es.map (·.1)) W := by
 have h' := h
 rcases h.2 with ⟨rfl, hn⟩ | ⟨g, cap, cur, rfl, hb, hg, h1, h2, h3, h4⟩
 ·
  exact ⟨none, 0, by rw [hn], by omega, by unfold maxLen; omega, ⟨fun h0 => by rw [List.length_map] at h0; omega⟩⟩
 ·
  refine ⟨_, cap, rfl, h1, h2, ⟨fun h0 => ⟨g, 0, rfl, (h'.lt g rfl).2, fun i r hr => ?_⟩⟩⟩
  rw [List.getElem?_map] at hr
  cases he : es[i]? with
  | none => rw [he] at hr; cases hr
  | some e =>
   rw [he] at hr
   simp only [Option.map_some, Option.some.injEq] at hr
   subst hr
   have hcell : ∀ j u, j < 4 → (ruleE e).toList[j]? = some u → W.cell? ⟨g, 0 + i * 4 + j, none⟩ = some u := fun j u hj hu => by
    have h5 := h'.cells (g := g) rfl (i * 4 + j) u (by rw [flatR_get es i e j he hj]; exact hu)
    rwa [show (⟨g, 0, none⟩ : Addr).add (i * 4 + j) = ⟨g, 0 + i * 4 + j, none⟩ by unfold Addr.add; split <;> simp_all] at h5
   obtain ⟨q1, q2, q3, q4, _⟩ := hc e (List.mem_of_getElem? he)
   exact ⟨e.2.1, e.2.2, hcell 0 _ (by omega) rfl, hcell 1 _ (by omega) rfl, hcell 2 _ (by omega) rfl, hcell 3 _ (by omega) rfl, q2, q3, q4, q1⟩
theorem info_rule : ∃ i, Tryz.prog.info? 41 = some i ∧ i.zero = some (.agg (ruleC 0 (.slice none 0 0) ⟨0, 0⟩)) ∧ i.size = 4 ∧ i.bytes = 48 := by
 have hz : (Tryz.prog.info? 41).map (·.zero) = some (some (.agg (ruleC 0 (.slice none 0 0) ⟨0, 0⟩))) := by kernel_rfl
 have hs : (Tryz.prog.info? 41).map (·.size) = some 4 := by kernel_rfl
 have hb : (Tryz.prog.info? 41).map (·.bytes) = some 48 := by kernel_rfl
 cases hq : Tryz.prog.info? 41 with
 | none => rw [hq] at hs; simp at hs
 | some i =>
  rw [hq] at hz hs hb
  simp at hz hs hb
  exact ⟨i, rfl, hz, hs, hb⟩
theorem size_pol : (Tryz.prog.info? 26).map (·.size) = some 3 := by kernel_rfl

def polC (sv : Value) (a : ACT) : Array Value := #[sv, .int .i64 a.kind, .int .i64 a.errno]
theorem condsOk_more {r5 : Nat} {sv : Value} {es : List RE} {X0 X1 Y : World} {e : RE} {o : Obj} {gg n cap : Nat} (h : CondsOk r5 sv es X0) (hb : Below X0.heap.size X0 X1) (he : RlOk e.1 ∧ IsConds e.2.1 e.1.conds X1 ∧ e.1.conds.length ≤ e.2.2 ∧ e.2.2 ≤ maxLen ∧ ∀ b off, e.2.1 = some ⟨b, off, none⟩ → X0.heap.size ≤ b ∧ b < X1.heap.size) (h5 : r5 < X0.heap.size)
  (hown : ∀ k, sv.ownBlock = some k → k < X0.heap.size) (hgrow : (X1.alloc o).grownBy Y sv.ownBlock) (hat : sv.ownBlock = some gg ∨ gg = X1.heap.size + 1) (V : World) (hV : ∀ k, k ≠ r5 → V.heap[k]? = Y.heap[k]?) (hVs : Y.heap.size ≤ V.heap.size) :
  CondsOk r5 (.slice (some ⟨gg, 0, none⟩) n cap) (es ++ [e]) V := by
 have hs1 := hb.size
 have hsY : X1.heap.size ≤ Y.heap.size := Nat.le_trans (box_below X1 o).size hgrow.size
 have hgg : ∀ b, b < X1.heap.size → sv.ownBlock ≠ some b → (Value.slice (some ⟨gg, 0, none⟩) n cap).ownBlock ≠ some b := fun b hb1 hb2 hc => by
  simp only [Value.ownBlock, Option.some.injEq] at hc
  subst hc
  rcases hat with h | h
  ·
   exact hb2 h
  ·
   omega
 intro x hx
 rcases List.mem_append.1 hx with hx | hx
 ·
  obtain ⟨q1, q2, q3, q4, q5⟩ := h x hx
  refine ⟨q1, q2.heap (fun b off e0 hlt0 => ?_) (by omega), q3, q4, fun b off e0 => ?_⟩
  ·
   obtain ⟨p1, p2, _⟩ := q5 b off e0
   rw [hV b (by omega), hgrow.block b (by rw [World.size_alloc]; omega) (fun e1 => p2 e1.symm), (box_below X1 o).block b (by omega), hb.block b hlt0]
  ·
   obtain ⟨p1, p2, p3⟩ := q5 b off e0
   exact ⟨p1, hgg b (by omega) p2, by omega⟩
 ·
  rw [List.mem_singleton] at hx
  subst hx
  obtain ⟨q1, q2, q3, q4, q5⟩ := he
  refine ⟨q1, q2.heap (fun b off e0 hlt0 => ?_) (by omega), q3, q4, fun b off e0 => ?_⟩
  ·
   have p1 := q5 b off e0
   rw [hV b (by omega), hgrow.block b (by rw [World.size_alloc]; omega) (fun e1 => by have := hown b e1.symm; omega), (box_below X1 o).block b hlt0]
  ·
   have p1 := q5 b off e0
   exact ⟨by omega, hgg b p1.2 (fun e1 => by have := hown b e1; omega), by omega⟩
end Go.Proofs.YtklibmijiecbfaaGreat

/- read: the walk. -/
namespace Go.Proofs.YtklibmijiecbfaaGreat
open Go.RowKit Go.Sort

theorem own_on {W V : World} {base size n : Nat} {e : TypeId} {v : Value} {xs : List Value} (h : W.ownsRow base e size v n xs) (hb : Below W.heap.size W V) : V.ownsRow base e size v n xs :=
 h.kept (row := none) ⟨hb.os, hb.tape, hb.output, hb.size, fun k hk _ => hb.block k hk⟩ (by
  cases hv : v.ownBlock with
  | none => exact .inl rfl
  | some k => exact .inr (by simp))
theorem own_but {W V : World} {base size n r : Nat} {e : TypeId} {v : Value} {xs : List Value} (h : W.ownsRow base e size v n xs) (hb : But r W V) (hr : r < base) : V.ownsRow base e size v n xs :=
 h.kept hb.grown (by
  by_cases he : v.ownBlock = some r
  ·
   have := (h.lt _ he).1
   omega
  ·
   exact .inr he)
end Go.Proofs.YtklibmijiecbfaaGreat

/- policy.Parse. -/
namespace Go.Proofs.YtklibmijiecbfaaGreat
open Go.RowKit Go.Sort

end Go.Proofs.YtklibmijiecbfaaGreat

/- Calls and values; what a rule asks of them. -/
namespace Go.Proofs.YtklibmijiecbfaaGreat
open Go.RowKit Go.Sort

structure KL where
 arch : Nat
 nr : Nat
 a0 : Nat
 a1 : Nat
 a2 : Nat
 a3 : Nat
structure KlOk (c : KL) : Prop where
 arch : c.arch < 4294967296
 nr : c.nr < 4294967296
 a0 : c.a0 < 18446744073709551616
 a1 : c.a1 < 18446744073709551616
 a2 : c.a2 < 18446744073709551616
 a3 : c.a3 < 18446744073709551616
def klC (c : KL) : Array Value := #[.int .u32 c.arch, .int .u32 c.nr, .int .u64 c.a0, .int .u64 c.a1, .int .u64 c.a2, .int .u64 c.a3]
def klV (c : KL) : Value := .agg (klC c)
def regN (c : KL) : Nat → Nat
 | 0 => c.a0
 | 1 => c.a1
 | 2 => c.a2
 | 3 => c.a3
 | _ => 0
theorem regN_lt {c : KL} (h : KlOk c) (i : Nat) : regN c i < 18446744073709551616 := by
 match i with
 | 0 => exact h.a0
 | 1 => exact h.a1
 | 2 => exact h.a2
 | 3 => exact h.a3
 | i + 4 => simp [regN]
theorem regN_at (c : KL) (i : Nat) (h : i ≤ 3) : (klC c)[2 + i]? = some (.int .u64 (regN c i : Nat)) := by
 rcases (by omega : i = 0 ∨ i = 1 ∨ i = 2 ∨ i = 3) with rfl | rfl | rfl | rfl <;> rfl
def holdsN (c : CD) (x : Nat) : Bool :=
 if c.op = 1 then x == c.v else if c.op = 2 then x != c.v else if c.op = 3 then decide (x < c.v) else if c.op = 4 then decide (x ≤ c.v)
 else if c.op = 5 then decide (c.v < x) else if c.op = 6 then decide (c.v ≤ x) else (x &&& c.m) == c.v

set_option maxHeartbeats 2000000 in
theorem holds_any (c : CD) (hc : CdOk c) (x : Nat) (hx : x < 18446744073709551616) (w : World) : Calls Tryz.prog 108 #[condV c, .int .u64 x] w fun e w' => e = .returned (.bool (holdsN c x)) ∧ Below w.heap.size w w' := by
 obtain ⟨arg, op, v, m, g, ⟨ip, b, lo, hi⟩⟩ := c
 have hand : bits .and .u64 (x : Int) (m : Int) = ((x &&& m : Nat) : Int) := u64_and_nat x m hx hc.m
 clear hc
 obtain ⟨y, hy⟩ : ∃ y : Nat, y = x &&& m := ⟨_, rfl⟩
 rw [← hy] at hand
 have HY := hide hy
 clear hy
 unfold condV
 simp only
 go_enter Tryz.func108, Tryz.ntmps108
 go_wp2
 all_goals
  go_ret
  refine ⟨ret_bool ?_, box_below _ _⟩
 all_goals
  clear hand
  first
  | (simp_all [holdsN]; done)
  | (rw [Bool.eq_iff_iff]; simp_all [holdsN]; done)
  | (rw [Bool.eq_iff_iff]; simp_all [holdsN]; omega)
  | (have := HY.out; rw [Bool.eq_iff_iff]; simp_all [holdsN]; omega)
end Go.Proofs.YtklibmijiecbfaaGreat

/- fits, isDeep, leads. -/
namespace Go.Proofs.YtklibmijiecbfaaGreat
open Go.RowKit Go.Sort

def numB (c : CD) : Bool := kindOp c.op == 1
def regB (k : KL) (c : CD) : Bool := !numB c || holdsN c (regN k c.arg.toNat)
def fitsB (r : RL) (k : KL) : Bool := decide ((k.nr : Int) = r.nr) && r.conds.all (regB k)
def deepB (r : RL) : Bool := r.conds.any fun c => !numB c

theorem all_take_snoc {α : Type} {f : α → Bool} {l : List α} {i : Nat} {c : α} (h : l.take (i + 1) = l.take i ++ [c]) (h0 : (l.take i).all f = true) : (l.take (i + 1)).all f = f c := by rw [h, List.all_append, h0]; simp
theorem all_take_false {α : Type} {f : α → Bool} {l : List α} {i : Nat} (h : (l.take i).all f = false) : l.all f = false := by
 rw [← List.take_append_drop i l, List.all_append, h, Bool.false_and]

set_option maxHeartbeats 4000000 in
theorem isDeep_any (r : RL) (hf : r.conds.length ≤ 4) (oa : Option Addr) (cap : Nat) (w : World) (hc : IsConds oa r.conds w) :
  Calls Tryz.prog 80 #[ruleV r oa cap] w fun e w' => e = .returned (.bool (deepB r)) ∧ Below w.heap.size w w' := by
 obtain ⟨n, hn⟩ : ∃ n, n = r.conds.length := ⟨_, rfl⟩
 have HC := hide (conds_parts hc n hn)
 have h4 : n ≤ 4 := by omega
 have HL := hide (show ∀ i, i < n → ∃ c, r.conds[i]? = some c ∧ r.conds.take (i + 1) = r.conds.take i ++ [c] from fun i h => take_next (by omega))
 have HD := hide (show deepB r = !(r.conds.all numB) by unfold deepB; rw [List.any_eq_not_all_not]; simp)
 obtain ⟨z, hz⟩ : ∃ z, z = deepB r := ⟨_, rfl⟩
 rw [← hz] at HD ⊢
 clear hc hf hz
 obtain ⟨nr, cs, ⟨ak, ae⟩⟩ := r
 unfold ruleV
 simp only at HC HL HD hn ⊢
 rw [← hn]
 have HN := hide hn
 clear hn
 go_enter Tryz.func80, Tryz.ntmps80
 go_wp2
 obtain ⟨V, hV, hB, hsz, hx⟩ := one_box w #[.int .i64 nr, .slice oa n cap, .int .i64 ak, .int .i64 ae] 41
 rw [← hV]
 clear hV
 have k1 := hx 1
 go_loopw [7] (fun I w' => ∃ i : Nat, i ≤ n ∧ I = .int .i64 i ∧ Hid ((cs.take i).all numB = true) ∧ w' = V) (fun I _ => n - (intOf I).toNat)
 case atStart => exact ⟨0, by omega, rfl, hide rfl, rfl⟩
 case round =>
  obtain ⟨i, hi, rfl, HG, rfl⟩ := hrel
  by_cases hlt : i < n
  ·
   obtain ⟨c, hcs, hcat⟩ := HL.out i hlt
   obtain ⟨b, off, rfl, hbw, HA⟩ := HC.out (by omega)
   have hA := (HA.out i c hcs).on fun j => (bcell hB).1 b j hbw
   have c1 := hA.k1
   have HQ := hide (all_take_snoc (f := numB) hcat HG.out)
   have HK := fun w => kindOf_any c.op w
   obtain ⟨ko, hko⟩ : ∃ k : Int, k = (kindOp c.op : Nat) := ⟨_, rfl⟩
   rw [← hko] at HK
   have hnb : numB c = (ko == 1) := by unfold numB; rw [hko, Bool.eq_iff_iff]; simp; omega
   rw [hnb] at HQ
   clear hko hnb hcs hcat hA hx
   obtain ⟨op, hop⟩ : ∃ o, o = c.op := ⟨_, rfl⟩
   rw [← hop] at HK c1
   clear hop
   cases hkb : (ko == 1) with
   | true =>
    rw [hkb] at HQ
    have hk1 : ko = 1 := by simpa using hkb
    subst hk1
    go_wp2_with (go_at_call 102; refine (HK _).mono ?_; rintro e w' ⟨rfl, rfl⟩)
    go_round
    case rel => exact ⟨i + 1, by omega, by go_num, HQ, trivial⟩
    case measure => simp [intOf]; omega
   | false =>
    rw [hkb] at HQ
    have hk1 : ¬ ko = 1 := by simpa using hkb
    have HZ := hide (show z = true by rw [HD.out, all_take_false HQ.out]; rfl)
    clear hkb
    go_wp2_with (go_at_call 102; refine (HK _).mono ?_; rintro e w' ⟨rfl, rfl⟩)
    go_ret
    exact ⟨ret_bool HZ.out.symm, hB⟩
  ·
   obtain rfl : i = n := by omega
   have HZ := hide (show z = false by
    have := HG.out
    rw [List.take_of_length_le (by rw [HN.out]; exact Nat.le_refl _)] at this
    rw [HD.out, this]; rfl)
   go_wp2
   go_ret
   exact ⟨ret_bool HZ.out.symm, hB⟩

theorem shape_arg {c : CD} (h : Shape c) : ∃ a : Nat, c.arg = a ∧ a ≤ 3 := by
 cases h with
 | num a k v ha h1 h6 hv => exact ⟨a, rfl, ha⟩
 | mask a v m ha hv hm => exact ⟨a, rfl, ha⟩
 | like a g ha hg => exact ⟨a, rfl, ha⟩
 | net a ip b lo hi ha hip hf => exact ⟨a, rfl, ha⟩
set_option maxHeartbeats 4000000 in
theorem fits_any (r : RL) (h : RuleOk r) (oa : Option Addr) (cap : Nat) (k : KL) (hk : KlOk k) (w : World) (hc : IsConds oa r.conds w) :
  Calls Tryz.prog 79 #[ruleV r oa cap, klV k] w fun e w' => e = .returned (.bool (fitsB r k)) ∧ Below w.heap.size w w' := by
 obtain ⟨n, hn⟩ : ∃ n, n = r.conds.length := ⟨_, rfl⟩
 have HC := hide (conds_parts hc n hn)
 have h4 : n ≤ 4 := by have := h.few; omega
 have HSH := hide h.conds
 have HL := hide (show ∀ i, i < n → ∃ c, r.conds[i]? = some c ∧ r.conds.take (i + 1) = r.conds.take i ++ [c] from fun i h => take_next (by omega))
 obtain ⟨m, hm⟩ : ∃ m : Nat, r.nr = m := ⟨r.nr.toNat, by have := h.nr0; omega⟩
 have hm8 : m ≤ 8 := by have := h.nr8; omega
 have HZ := hide (show fitsB r k = (decide ((k.nr : Int) = r.nr) && r.conds.all (regB k)) from rfl)
 obtain ⟨z, hz⟩ : ∃ z, z = fitsB r k := ⟨_, rfl⟩
 rw [← hz] at HZ ⊢
 clear hc hz h
 obtain ⟨nr, cs, ⟨ak, ae⟩⟩ := r
 unfold ruleV klV klC
 simp only at HC HL HZ HSH hn hm ⊢
 subst hm
 rw [← hn]
 have HN := hide hn
 clear hn
 have hwr : IntKind.u32.wrap (m : Int) = m := by rw [IntKind.wrap_u32]; omega
 by_cases hne : k.nr = m
 ·
  have HZ2 := hide (show z = cs.all (regB k) by rw [HZ.out, hne]; simp)
  have hnn : (k.nr : Int) = m := by omega
  clear HZ
  obtain ⟨V, hV, hB, hx, hy⟩ := two_box w #[.int .i64 m, .slice oa n cap, .int .i64 ak, .int .i64 ae] (klC k) 41 52
  have HY := hide hy
  have k1 := hx 1
  have kn := hy 1
  have kn2 : V.cell? ⟨w.heap.size + 1, 1, none⟩ = some (.int .u32 m) := by rw [kn]; show some (Value.int .u32 (k.nr : Int)) = _; rw [hnn]
  clear kn hy
  unfold klC at hV
  rw [hnn] at hV ⊢
  have HREG := hide (regN_at k)
  have HKO := hide (fun i => regN_lt hk i)
  obtain ⟨kar, hkar⟩ : ∃ x, x = k.arch := ⟨_, rfl⟩
  obtain ⟨kb0, hkb0⟩ : ∃ x, x = k.a0 := ⟨_, rfl⟩
  obtain ⟨kb1, hkb1⟩ : ∃ x, x = k.a1 := ⟨_, rfl⟩
  obtain ⟨kb2, hkb2⟩ : ∃ x, x = k.a2 := ⟨_, rfl⟩
  obtain ⟨kb3, hkb3⟩ : ∃ x, x = k.a3 := ⟨_, rfl⟩
  rw [← hkar, ← hkb0, ← hkb1, ← hkb2, ← hkb3] at hV ⊢
  clear hkar hkb0 hkb1 hkb2 hkb3 hk hne hnn
  go_enter Tryz.func79, Tryz.ntmps79
  go_wp2
  rw [← hV]
  clear hV
  go_loopw [16] (fun I w' => ∃ i : Nat, i ≤ n ∧ I = .int .i64 i ∧ Hid ((cs.take i).all (regB k) = true) ∧ Hid (Below V.heap.size V w')) (fun I _ => n - (intOf I).toNat)
  case atStart => exact ⟨0, by omega, rfl, hide rfl, hide (Below.refl _ _)⟩
  case round =>
   obtain ⟨i, hi, rfl, HG, HB⟩ := hrel
   have HW := hide (below_next hB HB.out)
   by_cases hlt : i < n
   ·
    obtain ⟨c, hcs, hcat⟩ := HL.out i hlt
    obtain ⟨b, off, rfl, hbw, HA⟩ := HC.out (by omega)
    have hA := (HA.out i c hcs).on fun j => (bcell HW.out).1 b j hbw
    have HQ := hide (all_take_snoc (f := regB k) hcat HG.out)
    have hok := hA.ok
    obtain ⟨a, haa, ha3⟩ := shape_arg (HSH.out c (List.mem_of_getElem? hcs))
    obtain ⟨x, hxx⟩ : ∃ x, x = regN k a := ⟨_, rfl⟩
    have hxl : x < 18446744073709551616 := by rw [hxx]; exact HKO.out a
    have kreg := (HY.out (2 + a)).trans (HREG.out a ha3)
    rw [← hxx] at kreg
    have HH := fun w => holds_any c hok x hxl w
    have HRB := hide (show regB k c = (!numB c || holdsN c x) by unfold regB; rw [haa, Int.toNat_natCast, hxx])
    obtain ⟨hl, hhl⟩ : ∃ z, z = holdsN c x := ⟨_, rfl⟩
    rw [← hhl] at HH HRB
    have HK := fun w => kindOf_any c.op w
    obtain ⟨ko, hko⟩ : ∃ k : Int, k = (kindOp c.op : Nat) := ⟨_, rfl⟩
    rw [← hko] at HK
    have hnb : numB c = (ko == 1) := by unfold numB; rw [hko, Bool.eq_iff_iff]; simp; omega
    rw [hnb] at HRB
    rw [HRB.out] at HQ
    obtain ⟨p0, p1, p2, p3, p4, p5, p6, p7, p8, _⟩ := hA
    clear hko hnb hcs hcat hxx hxl hhl hok HRB
    obtain ⟨arg, op, v, mm, gl, ⟨ip, bb, lo, hh⟩⟩ := c
    unfold condV at HH
    simp only at p0 p1 p2 p3 p4 p5 p6 p7 p8 HH HK haa
    subst haa
    have g1 := keep_cell HB.out k1
    have i1 : (0 : Int) ≤ a := by omega
    have i2 : (a : Int) < 4 := by omega
    go_wp2
    obtain ⟨W1, hW1, hW1b, _, hW1c⟩ := one_box wr #[.int .i64 a, .int .i64 op, .int .u64 v, .int .u64 mm, .string gl, .int .u32 ip, .int .i64 bb, .int .i64 lo, .int .i64 hh] 47
    rw [← hW1]
    clear hW1
    have g0 := cell_regrown (hW1c 0)
    have g1' := cell_regrown (hW1c 1)
    have g2 := cell_regrown (hW1c 2)
    have g3 := cell_regrown (hW1c 3)
    have g4 := cell_regrown (hW1c 4)
    have g5 := cell_regrown (hW1c 5)
    have g6 := cell_regrown (hW1c 6)
    have g7 := cell_regrown (hW1c 7)
    have g8 := cell_regrown (hW1c 8)
    have gr := cell_regrown (keep_cell (below_next HB.out hW1b) kreg)
    have cK : ∀ d os, Calls Tryz.prog 102 #[.int .i64 op] (grow (redrawn W1 d) os) fun e w'' => e = .returned (.int .i64 ko) ∧ ∃ p : Regrown, w'' = grow (redrawn W1 p.d) p.os := fun d os => regrown_same (HK _)
    have cH : ∀ d os, Calls Tryz.prog 108 #[.agg #[.int .i64 a, .int .i64 op, .int .u64 v, .int .u64 mm, .string gl, .int .u32 ip, .int .i64 bb, .int .i64 lo, .int .i64 hh], .int .u64 x] (grow (redrawn W1 d) os) fun e w'' => e = .returned (.bool hl) ∧ ∃ p : Regrown, w'' = grow (redrawn W1 p.d) p.os := fun d os => Calls.regrown_of (HH _)
    clear hW1c p0 p1 p2 p3 p4 p5 p6 p7 p8 HH HK kreg
    cases hkb : (ko == 1) with
    | false =>
     rw [hkb] at HQ
     refine wp_region_quiet_below (by kernel_rfl) (by kernel_rfl) ?_
     repeat (go_big_quiet_step (first | (go_at_call 102; exact cK _ _) | (go_at_call 108; exact cH _ _)))
     refine wpQuiet_nil ?_
     intro _ hw'
     obtain ⟨⟨dq, osq⟩, hw''⟩ := hw'
     subst hw''
     go_wp2
     go_round
     case rel => exact ⟨i + 1, by omega, by go_num, HQ, hide (below_next (below_next HB.out hW1b) (below_regrown _ _ _))⟩
     case measure => simp [intOf]; omega
    | true =>
     rw [hkb] at HQ
     cases hl with
     | true =>
      refine wp_region_quiet_below (by kernel_rfl) (by kernel_rfl) ?_
      repeat (go_big_quiet_step (first | (go_at_call 102; exact cK _ _) | (go_at_call 108; exact cH _ _)))
      refine wpQuiet_nil ?_
      intro _ hw'
      obtain ⟨⟨dq, osq⟩, hw''⟩ := hw'
      subst hw''
      go_wp2
      go_round
      case rel => exact ⟨i + 1, by omega, by go_num, HQ, hide (below_next (below_next HB.out hW1b) (below_regrown _ _ _))⟩
      case measure => simp [intOf]; omega
     | false =>
      have HF := hide (show z = false by rw [HZ2.out]; exact all_take_false HQ.out)
      refine wp_region_quiet_below (by kernel_rfl) (by kernel_rfl) ?_
      repeat (go_big_quiet_step (first | (go_at_call 102; exact cK _ _) | (go_at_call 108; exact cH _ _)))
      refine wpQuiet_nil ?_
      intro _ hw'
      obtain ⟨⟨dq, osq⟩, hw''⟩ := hw'
      subst hw''
      go_wp2
      go_ret
      exact ⟨ret_bool HF.out.symm, below_next (below_next HW.out hW1b) (below_regrown _ _ _)⟩
   ·
    obtain rfl : i = n := by omega
    have HF := hide (show z = true by
     have := HG.out
     rw [List.take_of_length_le (by rw [HN.out]; exact Nat.le_refl _)] at this
     rw [HZ2.out, this])
    go_wp2
    go_ret
    exact ⟨ret_bool HF.out.symm, HW.out⟩
 ·
  have HF := hide (show z = false by
   rw [HZ.out, decide_eq_false (by omega), Bool.false_and])
  have hn1 : ¬ (k.nr : Int) = m := by omega
  clear hne HZ
  go_enter Tryz.func79, Tryz.ntmps79
  go_wp2
  go_ret
  exact ⟨ret_bool HF.out.symm, below_next (box_below _ _) (box_below _ _)⟩
end Go.Proofs.YtklibmijiecbfaaGreat

/- leads. -/
namespace Go.Proofs.YtklibmijiecbfaaGreat
open Go.RowKit Go.Sort

structure VL where
 path : ByteArray
 ip : Nat
 port : Int
structure VlOk (v : VL) : Prop where
 path : v.path.size ≤ 1000
 ip : v.ip < 4294967296
 port : I64 v.port
structure VS where
 v0 : VL
 v1 : VL
 v2 : VL
 v3 : VL
def VS.at (v : VS) : Nat → VL
 | 0 => v.v0
 | 1 => v.v1
 | 2 => v.v2
 | _ => v.v3
structure VsOk (v : VS) : Prop where
 v0 : VlOk v.v0
 v1 : VlOk v.v1
 v2 : VlOk v.v2
 v3 : VlOk v.v3
theorem VsOk.at {v : VS} (h : VsOk v) (i : Nat) : VlOk (v.at i) := by
 match i with
 | 0 => exact h.v0
 | 1 => exact h.v1
 | 2 => exact h.v2
 | i + 3 => exact h.v3
def vsC (v : VS) : Array Value := #[.string v.v0.path, .int .u32 v.v0.ip, .int .i64 v.v0.port, .string v.v1.path, .int .u32 v.v1.ip, .int .i64 v.v1.port, .string v.v2.path, .int .u32 v.v2.ip, .int .i64 v.v2.port, .string v.v3.path, .int .u32 v.v3.ip, .int .i64 v.v3.port]
def vsV (v : VS) : Value := .agg (vsC v)
theorem vsC_at (v : VS) (i : Nat) (h : i ≤ 3) : (vsC v)[i * 3]? = some (.string (v.at i).path) ∧ (vsC v)[i * 3 + 1]? = some (.int .u32 (v.at i).ip) ∧ (vsC v)[i * 3 + 2]? = some (.int .i64 (v.at i).port) := by
 rcases (by omega : i = 0 ∨ i = 1 ∨ i = 2 ∨ i = 3) with rfl | rfl | rfl | rfl <;> exact ⟨rfl, rfl, rfl⟩
def netHas (n : NT) (y : VL) : Bool := hasOf n.ip n.bits n.lo n.hi y.ip y.port
def leadB (v : VS) (c : CD) : Bool := if c.op = 8 then Gl.matchR c.glob (v.at c.arg.toNat).path else if c.op = 9 then netHas c.net (v.at c.arg.toNat) else true
def leadsB (r : RL) (v : VS) : Bool := r.conds.all (leadB v)

set_option maxHeartbeats 4000000 in
set_option maxRecDepth 100000 in
theorem leads_any (r : RL) (h : RuleOk r) (oa : Option Addr) (cap : Nat) (v : VS) (hv : VsOk v) (w : World) (hc : IsConds oa r.conds w) :
  Calls Tryz.prog 86 #[ruleV r oa cap, vsV v] w fun e w' => e = .returned (.bool (leadsB r v)) ∧ Below w.heap.size w w' := by
 obtain ⟨n, hn⟩ : ∃ n, n = r.conds.length := ⟨_, rfl⟩
 have HC := hide (conds_parts hc n hn)
 have h4 : n ≤ 4 := by have := h.few; omega
 have HSH := hide h.conds
 have HL := hide (show ∀ i, i < n → ∃ c, r.conds[i]? = some c ∧ r.conds.take (i + 1) = r.conds.take i ++ [c] from fun i h => take_next (by omega))
 have HZ := hide (show leadsB r v = r.conds.all (leadB v) from rfl)
 obtain ⟨z, hz⟩ : ∃ z, z = leadsB r v := ⟨_, rfl⟩
 rw [← hz] at HZ ⊢
 clear hc hz h
 obtain ⟨nr, cs, ⟨ak, ae⟩⟩ := r
 obtain ⟨vc, hvc⟩ : ∃ c, c = vsC v := ⟨_, rfl⟩
 have hvs : vc.size = 12 := by rw [hvc]; rfl
 unfold ruleV vsV
 simp only at HC HL HZ HSH hn ⊢
 rw [← hn, ← hvc]
 have HN := hide hn
 have HVC := hide hvc
 clear hn hvc
 obtain ⟨V, hV, hB, hx, hy⟩ := two_box w #[.int .i64 nr, .slice oa n cap, .int .i64 ak, .int .i64 ae] vc 41 68
 have HY := hide hy
 have k1 := hx 1
 clear hy
 go_enter Tryz.func86, Tryz.ntmps86
 go_wp2
 rw [← hV]
 clear hV
 go_loopw [11] (fun I w' => ∃ i : Nat, i ≤ n ∧ I = .int .i64 i ∧ Hid ((cs.take i).all (leadB v) = true) ∧ Hid (Below V.heap.size V w')) (fun I _ => n - (intOf I).toNat)
 case atStart => exact ⟨0, by omega, rfl, hide rfl, hide (Below.refl _ _)⟩
 case round =>
  obtain ⟨i, hi, rfl, HG, HB⟩ := hrel
  have HW := hide (below_next hB HB.out)
  by_cases hlt : i < n
  ·
   obtain ⟨c, hcs, hcat⟩ := HL.out i hlt
   obtain ⟨b, off, rfl, hbw, HA⟩ := HC.out (by omega)
   have hA := (HA.out i c hcs).on fun j => (bcell HW.out).1 b j hbw
   have HQ := hide (all_take_snoc (f := leadB v) hcat HG.out)
   have hok := hA.ok
   have hsh := HSH.out c (List.mem_of_getElem? hcs)
   obtain ⟨a, haa, ha3⟩ := shape_arg hsh
   obtain ⟨y, hyy⟩ : ∃ y, y = v.at a := ⟨_, rfl⟩
   have hyo : VlOk y := by rw [hyy]; exact hv.at a
   have hya := vsC_at v a ha3
   rw [← HVC.out, ← hyy] at hya
   have q0 := keep_cell HB.out ((HY.out (a * 3)).trans hya.1)
   have q1 := keep_cell HB.out ((HY.out (a * 3 + 1)).trans hya.2.1)
   have q2 := keep_cell HB.out ((HY.out (a * 3 + 2)).trans hya.2.2)
   have lw : w.heap.size + 1 < wr.heap.size := block_lt_of_cell q0
   have g1 := keep_cell HB.out k1
   have HM := fun (hg : c.glob.size ≤ 24) w => Gl.match_any c.glob y.path (by omega) hyo.path w
   have HH := fun w => has_any c.net.ip hok.net.ip c.net.bits c.net.lo c.net.hi hok.net.bits hok.net.lo hok.net.hi y.ip hyo.ip y.port w
   have hlb : leadB v c = if c.op = 8 then Gl.matchR c.glob y.path else if c.op = 9 then netHas c.net y else true := by unfold leadB; rw [haa, Int.toNat_natCast, hyy]
   rw [hlb] at HQ
   have hgl : c.op = 8 → c.glob.size ≤ 24 := fun h8 => by
    cases hsh with
    | num a k v ha h1 h6 hv => simp only at h8; omega
    | mask a v m ha hv hm => simp only at h8; omega
    | like a g ha hg => exact (glob_print hg).2
    | net a ip b lo hi ha hip hf => simp only at h8; omega
   obtain ⟨p0, p1, p2, p3, p4, p5, p6, p7, p8, _⟩ := hA
   clear hsh hya hyy hyo hok hcs hcat hlb
   obtain ⟨yp, yi, yo⟩ := y
   obtain ⟨arg, op, vv, mm, gl, ⟨ip, bb, lo, hh⟩⟩ := c
   simp only at p0 p1 p2 p3 p4 p5 p6 p7 p8 HH HM haa hgl HQ q0 q1 q2
   unfold netHas at HQ
   simp only at HQ
   subst haa
   have i1 : (0 : Int) ≤ a := by omega
   have i2 : (a : Int) < 4 := by omega
   by_cases h8 : op = 8
   ·
    subst h8
    replace HM := HM (hgl rfl)
    rw [if_pos rfl] at HQ
    obtain ⟨mr, hmr⟩ : ∃ m, m = Gl.matchR gl yp := ⟨_, rfl⟩
    rw [← hmr] at HQ HM
    clear hmr hgl HH
    cases mr with
    | true =>
     go_wp2_with (go_at_call 113; refine (HM _).mono ?_; rintro e w1 ⟨rfl, hb1⟩)
     go_round
     case rel => exact ⟨i + 1, by omega, by go_num, HQ, hide (below_next (below_next HB.out (below_next (box_below _ _) (box_below _ _))) hb1)⟩
     case measure => simp [intOf]; omega
    | false =>
     have HF := hide (show z = false by rw [HZ.out]; exact all_take_false HQ.out)
     go_wp2_with (go_at_call 113; refine (HM _).mono ?_; rintro e w1 ⟨rfl, hb1⟩)
     go_ret
     exact ⟨ret_bool HF.out.symm, below_next (below_next HW.out (below_next (box_below _ _) (box_below _ _))) hb1⟩
   ·
    rw [if_neg h8] at HQ
    by_cases h9 : op = 9
    ·
     subst h9
     rw [if_pos rfl] at HQ
     obtain ⟨mr, hmr⟩ : ∃ m, m = hasOf ip bb lo hh yi yo := ⟨_, rfl⟩
     rw [← hmr] at HQ HH
     clear hmr hgl HM
     cases mr with
     | true =>
      go_wp2_with (go_at_call 114; refine (HH _).mono ?_; rintro e w1 ⟨rfl, hb1⟩)
      go_round
      case rel => exact ⟨i + 1, by omega, by go_num, HQ, hide (below_next (below_next HB.out (below_next (box_below _ _) (box_below _ _))) hb1)⟩
      case measure => simp [intOf]; omega
     | false =>
      have HF := hide (show z = false by rw [HZ.out]; exact all_take_false HQ.out)
      go_wp2_with (go_at_call 114; refine (HH _).mono ?_; rintro e w1 ⟨rfl, hb1⟩)
      go_ret
      exact ⟨ret_bool HF.out.symm, below_next (below_next HW.out (below_next (box_below _ _) (box_below _ _))) hb1⟩
    ·
     rw [if_neg h9] at HQ
     clear HM HH hgl
     go_wp2
     go_round
     case rel => exact ⟨i + 1, by omega, by go_num, HQ, hide (below_next HB.out (below_next (box_below _ _) (box_below _ _)))⟩
     case measure => simp [intOf]; omega
  ·
   obtain rfl : i = n := by omega
   have HF := hide (show z = true by
    have := HG.out
    rw [List.take_of_length_le (by rw [HN.out]; exact Nat.le_refl _)] at this
    rw [HZ.out, this])
   go_wp2
   go_ret
   exact ⟨ret_bool HF.out.symm, HW.out⟩
end Go.Proofs.YtklibmijiecbfaaGreat
