/- policy.Check: a policy. -/
import Derived.Test.YtlgghomjlhnijaaGreatK3
import Derived.Test.YtlgghomjlhnijaaGreatK1
import Derived.Laws.Slices
import Derived.Lib.Strings
import Derived.Laws.BitsAllLaws
import Derived.Laws.ResultCell
import Derived.Laws.CopyOwn
import Derived.Lib.QuietBelow
import Derived.Lib.SplitLaws
import Derived.Lib.IndexBytes
import Derived.Deep.AppendLies
import Derived.Lib.SmallJoins
import Derived.Deep.RegionLaw
namespace Go.Proofs.YtlgghomjlhnijaaGreat
open Go.RowKit Go.Sort

/-- What is kept of a policy's rules, for a walk. -/
theorem pol_parts {oa : Option Addr} {cap : Nat} {p : POL} {w : World} (h : IsPol oa cap p w) (n : Nat) (hn : n = p.rules.length) : 0 < n → ∃ b off, oa = some ⟨b, off, none⟩ ∧ b < w.heap.size ∧ Hid (∀ i r, p.rules[i]? = some r → ∃ ca ccap, RuleAt w b (off + i * 4) r ca ccap) := fun h0 => by
  obtain ⟨b, off, q1, q2, q3⟩ := h.rules.lie (by omega)
  exact ⟨b, off, q1, q2, hide q3⟩

set_option maxHeartbeats 4000000 in
theorem pcheck_any (p : POL) (oa : Option Addr) (cap : Nat) (w : World) (h : IsPol oa cap p w) :
    Calls Tryz.prog 20 #[polV p oa cap] w fun e w' => e = .returned (errV (polF p)) ∧ Below w.heap.size w w' := by
  obtain ⟨n, hn⟩ : ∃ n, n = p.rules.length := ⟨_, rfl⟩
  have HC := hide (pol_parts h n hn)
  have hmax : n ≤ 9223372036854775807 := by have h1 := h.le; have h2 := h.cap; unfold maxLen at h2; omega
  clear h
  obtain ⟨rs, ⟨ak, ae⟩⟩ := p
  unfold polV
  simp only at HC hn ⊢
  rw [← hn]
  have hf0 : polF ⟨rs, ⟨ak, ae⟩⟩ = if 12 < n then 2 else if actF ⟨ak, ae⟩ = 0 then firstF (rs.map ruleF) else actF ⟨ak, ae⟩ := by rw [hn]; rfl
  by_cases h4 : 12 < n
  · have HF := hide (hf0.trans (if_pos h4))
    clear hf0 hn
    go_enter Tryz.func20, Tryz.ntmps20
    go_wp2
    go_ret
    exact ⟨by rw [HF.out]; rfl, box_below _ _⟩
  rw [if_neg h4] at hf0
  have HA := checkAction_any ⟨ak, ae⟩
  obtain ⟨f0, hf⟩ : ∃ f, f = actF ⟨ak, ae⟩ := ⟨_, rfl⟩
  rw [← hf] at HA hf0
  have HF := hide hf0
  have HN := hide hn
  have HL := hide (show ∀ i, i < n → ∃ c, rs[i]? = some c ∧ rs.take (i + 1) = rs.take i ++ [c] from fun i h => take_next (by omega))
  clear hf0 hn hf
  unfold actV at HA
  simp only at HA
  by_cases hz0 : f0 = 0
  · subst hz0
    rw [if_pos rfl] at HF
    rw [errV_zero] at HA
    go_enter Tryz.func20, Tryz.ntmps20
    obtain ⟨V, hV, hB, hsz, hx⟩ := one_box w #[.slice oa n cap, .int .i64 ak, .int .i64 ae] 26
    go_wp2_with (go_at_call 36; rw [← hV]; clear hV; refine (HA _).mono ?_; rintro e X ⟨rfl, hX⟩; have k0 := keep_cell hX (hx 0); have k1 := keep_cell hX (hx 1); have k2 := keep_cell hX (hx 2))
    go_loopw [20] (fun I w' => ∃ i : Nat, i ≤ n ∧ I = .int .i64 i ∧ Hid (Below X.heap.size X w') ∧ Hid (firstF ((rs.take i).map ruleF) = 0)) (fun I _ => n - (intOf I).toNat)
    case atStart => exact ⟨0, by omega, rfl, hide (Below.refl _ _), hide rfl⟩
    case round =>
      obtain ⟨i, hi, rfl, HB, HG⟩ := hrel
      have HW := hide (below_next (below_next hB hX) HB.out)
      by_cases hlt : i < n
      · obtain ⟨c, hcs, hcat⟩ := HL.out i hlt
        obtain ⟨b, off, rfl, hbw, HA2⟩ := HC.out (by omega)
        obtain ⟨ca, cc, hR0⟩ := HA2.out i c hcs
        have hR := hR0.on hbw HW.out
        clear hR0
        obtain ⟨f, hf⟩ : ∃ f, f = ruleF c := ⟨_, rfl⟩
        have HQ := hide (show firstF ((rs.take (i + 1)).map ruleF) = f by rw [hcat, List.map_append, firstF_append, if_pos HG.out, hf]; exact firstF_one _)
        have HCC := checkRule_any c ca cc wr hR.conds hR.ok ⟨hR.le, hR.cap⟩
        rw [← hf] at HCC
        obtain ⟨a0, a1, a2, a3, _, _, _, _⟩ := hR
        clear hf hcs hcat
        have g0 := keep_cell HB.out k0
        obtain ⟨nr, cs, ⟨rk, re⟩⟩ := c
        unfold ruleV at HCC
        simp only at a0 a1 a2 a3 HCC
        by_cases hz : f = 0
        · subst hz
          rw [errV_zero] at HCC
          go_wp2_with (go_at_call 37; refine HCC.mono ?_; rintro e w1 ⟨rfl, hb1⟩)
          go_round
          case rel => exact ⟨i + 1, by omega, by go_num, hide (below_next HB.out hb1), HQ⟩
          case measure => simp [intOf]; omega
        · rw [errV_pos hz] at HCC
          have HE := hide (show polF ⟨rs, ⟨ak, ae⟩⟩ = f by
            have h1 : firstF (rs.map ruleF) = f := by
              rw [← List.take_append_drop (i + 1) rs, List.map_append, firstF_append, if_neg (by rw [HQ.out]; exact hz), HQ.out]
            rw [HF.out, h1])
          go_wp2_with (go_at_call 37; refine HCC.mono ?_; rintro e w1 ⟨rfl, hb1⟩)
          go_ret
          exact ⟨by rw [HE.out, errV_pos hz]; rfl, below_next HW.out hb1⟩
      · obtain rfl : i = n := by omega
        have HE := hide (show polF ⟨rs, ⟨ak, ae⟩⟩ = 0 by
          have := HG.out
          rw [List.take_of_length_le (by rw [HN.out]; exact Nat.le_refl _)] at this
          rw [HF.out, this])
        go_wp2
        go_ret
        exact ⟨by rw [HE.out]; rfl, HW.out⟩
  · rw [if_neg hz0] at HF
    rw [errV_pos hz0] at HA
    go_enter Tryz.func20, Tryz.ntmps20
    go_wp2_with (go_at_call 36; refine (HA _).mono ?_; rintro e X ⟨rfl, hX⟩)
    go_ret
    exact ⟨by rw [HF.out, errV_pos hz0]; rfl, below_next (box_below _ _) hX⟩
end Go.Proofs.YtlgghomjlhnijaaGreat

/- What the library's variables hold. -/
namespace Go.Proofs.YtlgghomjlhnijaaGreat
open Go.RowKit Go.Sort

/-- A text, as Go has it. -/
def bs (l : W8) : ByteArray := ⟨l.toArray⟩
theorem bs_size (l : W8) : (bs l).size = l.length := by unfold bs; simp [ByteArray.size]
theorem bs_append (a b : W8) : bs a ++ bs b = bs (a ++ b) := by
  apply ByteArray.ext
  simp [bs, ByteArray.data_append]
theorem bs_data (l : W8) : (bs l).data.toList = l := by unfold bs; simp
theorem bs_of (g : ByteArray) : bs g.data.toList = g := by unfold bs; simp

end Go.Proofs.YtlgghomjlhnijaaGreat

/- A byte of an address. -/
namespace Go.Proofs.YtlgghomjlhnijaaGreat
open Go.RowKit

/-- A byte of an address, the highest at 0. -/
def ipB (ip i : Nat) : Nat := ip / 2 ^ (24 - 8 * i) % 256

theorem ipByte_any (ip i : Nat) (_hip : ip < 4294967296) (hi : i ≤ 3) (w : World) : Calls Tryz.prog 93 #[.int .u32 ip, .int .i64 i] w fun e w' => e = .returned (.int .u8 (ipB ip i)) ∧ w' = w := by
  go_enter Tryz.func93, Tryz.ntmps93
  go_wp2
  go_ret
  refine ⟨?_, rfl⟩
  refine ret_int ?_
  unfold ipB
  simp
theorem ipB_lt (ip i : Nat) : ipB ip i < 256 := Nat.mod_lt _ (by decide)
end Go.Proofs.YtlgghomjlhnijaaGreat

/- A string's bytes as numbers; '|' of numbers that share no bit. -/
namespace Go.Proofs.YtlgghomjlhnijaaGreat
open Go.RowKit

def byteAt (s : ByteArray) (i : Nat) : Nat := (s.data.toList.getD i 0).toNat
theorem byteAt_lt (s : ByteArray) (i : Nat) : byteAt s i < 256 := (s.data.toList.getD i 0).toNat_lt
theorem byteAt_eq (s : ByteArray) (i : Nat) (h : i < s.size) : s[i].toNat = byteAt s i := by
  unfold byteAt
  rw [List.getD_eq_getElem?_getD, List.getElem?_eq_getElem (by rw [← Lib.size_eq]; exact h)]
  rfl
theorem or8 (a b : Nat) (hb : b < 256) : a * 256 ||| b = a * 256 + b := by
  have := Nat.shiftLeft_add_eq_or_of_lt (i := 8) (b := b) (by omega) a
  rw [Nat.shiftLeft_eq] at this
  exact this.symm
theorem u32_or8 (a b : Nat) (ha : a < 16777216) (hb : b < 256) : bits .or .u32 ((a : Int) * 256) (b : Int) = ((a * 256 + b : Nat) : Int) := by
  rw [show (a : Int) * 256 = ((a * 256 : Nat) : Int) by simp, u32_or_nat _ _ (by omega) (by omega), or8 a b hb]
theorem i64_or_nat (a b : Nat) (ha : a < 9223372036854775808) (hb : b < 9223372036854775808) : bits .or .i64 (a : Int) (b : Int) = ((a ||| b : Nat) : Int) := by
  have hx : a ||| b < 2 ^ 63 := Nat.or_lt_two_pow (by omega) (by omega)
  have h1 : (BitVec.ofInt 64 (a : Int)).toNat = a := by rw [BitVec.ofInt_natCast, BitVec.toNat_ofNat]; exact Nat.mod_eq_of_lt (by omega)
  have h2 : (BitVec.ofInt 64 (b : Int)).toNat = b := by rw [BitVec.ofInt_natCast, BitVec.toNat_ofNat]; exact Nat.mod_eq_of_lt (by omega)
  show IntKind.i64.wrap ((BitVec.ofInt 64 (a : Int) ||| BitVec.ofInt 64 (b : Int)).toNat : Int) = _
  rw [BitVec.toNat_or, h1, h2]
  rw [IntKind.wrap_i64]
  omega
theorem i64_or8 (a b : Nat) (ha : a < 256) (hb : b < 256) : bits .or .i64 ((a : Int) * 256) (b : Int) = ((a * 256 + b : Nat) : Int) := by
  rw [show (a : Int) * 256 = ((a * 256 : Nat) : Int) by simp, i64_or_nat _ _ (by omega) (by omega), or8 a b hb]
end Go.Proofs.YtlgghomjlhnijaaGreat

/- addr.number: digits read. -/
namespace Go.Proofs.YtlgghomjlhnijaaGreat
open Go.RowKit

def numV : Option Nat → Value
  | none => .tuple #[.int .i64 0, .bool false]
  | some n => .tuple #[.int .i64 n, .bool true]

theorem byte_list (s : ByteArray) (k : Nat) (h : k < s.size) : s.data.toList.take (k + 1) = s.data.toList.take k ++ [UInt8.ofNat (byteAt s k)] := by
  have hk : k < s.data.toList.length := by rw [← Lib.size_eq]; exact h
  rw [List.take_add_one, List.getElem?_eq_getElem hk]
  unfold byteAt
  rw [List.getD_eq_getElem?_getD, List.getElem?_eq_getElem hk]
  simp
theorem isDig_byte (n : Nat) (h : n < 256) : isDig (UInt8.ofNat n) = (decide (48 ≤ n) && decide (n ≤ 57)) := by
  unfold isDig
  rw [UInt8.toNat_ofNat', Nat.mod_eq_of_lt h]
theorem all_take (l : List UInt8) (k : Nat) (h : (l.take k).all isDig = false) : l.all isDig = false := by
  cases hb : l.all isDig with
  | false => rfl
  | true =>
    rw [List.all_eq_true] at hb
    have : (l.take k).all isDig = true := List.all_eq_true.2 fun x hx => hb x (List.mem_of_mem_take hx)
    rw [h] at this
    cases this

end Go.Proofs.YtlgghomjlhnijaaGreat

/- addr.split: the numbers of a net's text. -/
namespace Go.Proofs.YtlgghomjlhnijaaGreat
open Go.RowKit

/-- Seven numbers in a row of cells, noughts behind those that are there. -/
def padN (ns : List Nat) : Array Value := #[.int .i64 (ns.getD 0 0), .int .i64 (ns.getD 1 0), .int .i64 (ns.getD 2 0), .int .i64 (ns.getD 3 0), .int .i64 (ns.getD 4 0), .int .i64 (ns.getD 5 0), .int .i64 (ns.getD 6 0)]

def signsB : ByteArray := ⟨#[46, 46, 46, 47, 58, 45]⟩

theorem signs_extract (k : Nat) (hk : k < 6) : (⟨#[46, 46, 46, 47, 58, 45]⟩ : ByteArray).extract k (k + 1) = ⟨#[signsL.getD k 0]⟩ := by
  match k, hk with
  | 0, _ => rfl
  | 1, _ => rfl
  | 2, _ => rfl
  | 3, _ => rfl
  | 4, _ => rfl
  | 5, _ => rfl
theorem signs_drop (k : Nat) (hk : k < 6) : signsL.drop k = signsL.getD k 0 :: signsL.drop (k + 1) := by
  match k, hk with
  | 0, _ => rfl
  | 1, _ => rfl
  | 2, _ => rfl
  | 3, _ => rfl
  | 4, _ => rfl
  | 5, _ => rfl

theorem padN_get (ns : List Nat) (k : Nat) (hk : k < 7) : (padN ns)[k]? = some (.int .i64 (ns.getD k 0)) := by
  match k, hk with
  | 0, _ => rfl
  | 1, _ => rfl
  | 2, _ => rfl
  | 3, _ => rfl
  | 4, _ => rfl
  | 5, _ => rfl
  | 6, _ => rfl
theorem getD_app (ns : List Nat) (n j : Nat) : (ns ++ [n]).getD j 0 = if j = ns.length then n else ns.getD j 0 := by
  rw [List.getD_eq_getElem?_getD, List.getD_eq_getElem?_getD, List.getElem?_append]
  by_cases h : j < ns.length
  · rw [if_pos h, if_neg (by omega)]
  · rw [if_neg h]
    by_cases h2 : j = ns.length
    · rw [if_pos h2, h2]; simp
    · rw [if_neg h2, List.getElem?_eq_none (by simp; omega), List.getElem?_eq_none (by omega)]
theorem padN_set (ns : List Nat) (n k : Nat) (hl : ns.length = k) (hk : k < 7) : (padN ns).setIfInBounds k (.int .i64 n) = padN (ns ++ [n]) := by
  subst hl
  apply Array.ext_getElem?
  intro j
  rw [Array.getElem?_setIfInBounds]
  by_cases hj : j < 7
  · rw [padN_get _ j hj, padN_get _ j hj, getD_app]
    by_cases h : j = ns.length
    · rw [if_pos h, if_pos h.symm, if_pos (by show ns.length < 7; exact hk)]
    · rw [if_neg h, if_neg (fun e => h e.symm)]
  · rw [if_neg (by omega), Array.getElem?_eq_none (by show 7 ≤ j; omega), Array.getElem?_eq_none (by show 7 ≤ j; omega)]
theorem padN_one (ns : List Nat) : (padN ns).all (·.oneCell') = true := by simp [padN, Value.oneCell']
end Go.Proofs.YtlgghomjlhnijaaGreat

/- addr.Parse. -/
namespace Go.Proofs.YtlgghomjlhnijaaGreat
open Go.RowKit

def parseV : Option (Nat × Nat × Nat × Nat) → Value
  | none => .tuple #[netV 0 0 0 0, .iface 93 (.int .i64 4)]
  | some (ip, b, lo, hi) => .tuple #[netV ip b lo hi, .nilIface]

abbrev netC (ip b lo hi : Nat) : Array Value := #[.int .u32 ip, .int .i64 b, .int .i64 lo, .int .i64 hi]
theorem size_net : (Tryz.prog.info? 69).map (·.size) = some 4 := by kernel_rfl

/-- A net and a word handed back, the net out of its block. -/
theorem results_net {fn : Func} {p u : Tmp} (h : fn.results = #[.cell p 69, .tmp u]) (tmps : Array Value) (w : World) (g ip b lo hi : Nat) (v : Value)
    (hp : tmps.getD p undef = .pointer (some ⟨g, 0, none⟩)) (hv : tmps.getD u undef = v) (hg : w.heap[g]? = some (.cells (netC ip b lo hi) 69 (0, 0))) :
    (results fn tmps).run Tryz.prog w = .ok (.tuple #[netV ip b lo hi, v]) w := by
  rw [results_cell_tmp h, hp, hv]
  have hl := run_loadVar_row (P := Tryz.prog) w g 69 69 (netC ip b lo hi) (0, 0) _ hg Tryz.underlying69 rfl size_net
  simp [asAddr, hl]

/-- A net laid cell by cell into the result's block. -/
theorem res_start {X : World} {g : Nat} (hX : X.heap[g]? = some (.cells (netC 0 0 0 0) 69 (0, 0))) :
    X.cell? ⟨g, 0, none⟩ = some (.int .u32 0) ∧ (∀ k, X.frozen? ⟨g, k, none⟩ = false) ∧ (∀ a, X.setCell ⟨g, 0, none⟩ (.int .u32 a) = X.setRow g #[.int .u32 a, .int .i64 0, .int .i64 0, .int .i64 0]) :=
  ⟨cell_of_row _ _ 0 _ _ _ hX, fun k => frozen_of_row _ _ k _ _ hX, fun _ => setCell_eq_setRow _ _ 0 _ _ _ _ hX⟩
theorem setRow_twice (X : World) (g : Nat) (c0 c1 c2 : Array Value) (hX : X.heap[g]? = some (.cells c0 69 (0, 0))) : (X.setRow g c1).setRow g c2 = X.setRow g c2 := by
  have hg := (Array.getElem?_eq_some_iff.1 hX).1
  unfold World.setRow
  congr 1
  apply Array.ext_getElem?
  intro j
  simp only [Array.getElem?_modify]
  by_cases h : g = j
  · subst h
    simp [hX]
  · simp [h]
theorem res_row {X : World} {g : Nat} {c0 : Array Value} (hX : X.heap[g]? = some (.cells c0 69 (0, 0))) :
    (∀ cs k, (X.setRow g cs).cell? ⟨g, k, none⟩ = cs[k]?) ∧ (∀ cs k, (X.setRow g cs).frozen? ⟨g, k, none⟩ = false) ∧ (∀ cs k v, (X.setRow g cs).setCell ⟨g, k, none⟩ v = X.setRow g (cs.setIfInBounds k v)) :=
  ⟨fun cs k => cell_of_row _ _ k _ _ _ (setRow_heap _ _ _ cs _ _ hX), fun cs k => frozen_of_row _ _ k _ _ (setRow_heap _ _ _ cs _ _ hX), fun cs k v => by
    rw [setCell_eq_setRow _ _ k _ _ _ _ (setRow_heap _ _ _ cs _ _ hX), setRow_twice X g c0 _ _ hX]⟩

def ipP (ns : List Nat) : Nat → Nat
  | 0 => 0
  | k + 1 => ipP ns k * 256 + ns.getD k 0
theorem ipP_succ (ns : List Nat) (k : Nat) : ipP ns (k + 1) = ipP ns k * 256 + ns.getD k 0 := rfl

theorem alloc_old (W : World) (o : Obj) (g : Nat) (hg : g < W.heap.size) : (W.alloc o).heap[g]? = W.heap[g]? := Go.heap_alloc_old _ _ (h := hg)
theorem ipP_or (ns : List Nat) (k : Nat) (hk : k < 4) (hip : ipP ns k < 256 ^ k) (hb : ns.getD k 0 ≤ 255) : bits .or .u32 ((ipP ns k : Int) * 256 % 4294967296) (ns.getD k 0 : Int) = ((ipP ns (k + 1) : Nat) : Int) := by
  have h3 : ipP ns k < 16777216 := Nat.lt_of_lt_of_le hip (Nat.pow_le_pow_right (n := 256) (j := 3) (by decide) (by omega))
  rw [show (ipP ns k : Int) * 256 % 4294967296 = (ipP ns k : Int) * 256 by omega, u32_or8 _ _ h3 (by omega)]
  rfl
theorem parse_big {s : List UInt8} {ns : List Nat} (hs : splitN signsL s = some ns) (k : Nat) (hk : k < 4) (hb : ¬ ns.getD k 0 ≤ 255) : parseR s = none := by
  obtain ⟨hlen, _, _⟩ := splitN_some _ _ _ hs
  obtain ⟨a, b, c, d, e, f, g, rfl⟩ := len7 hlen
  unfold parseR
  rw [hs]
  show (if _ then _ else _) = _
  rw [if_neg]
  rintro ⟨h1, h2, h3, h4, _⟩
  match k, hk with
  | 0, _ => exact hb h1
  | 1, _ => exact hb h2
  | 2, _ => exact hb h3
  | 3, _ => exact hb h4

theorem getD_lt {ns : List Nat} (h : ∀ n ∈ ns, n < 100000) (k : Nat) : ns.getD k 0 < 100000 := by
  rw [List.getD_eq_getElem?_getD]
  by_cases hk : k < ns.length
  · rw [List.getElem?_eq_getElem hk]; exact h _ (List.getElem_mem hk)
  · rw [List.getElem?_eq_none (by omega)]; exact Nat.lt_of_lt_of_le Nat.one_pos (by decide)
theorem parse_end {s : List UInt8} {ns : List Nat} (hs : splitN signsL s = some ns) (hle : ∀ j, j < 4 → ns.getD j 0 ≤ 255) :
    parseR s = if faultOf (ipP ns 4) (ns.getD 4 0) (ns.getD 5 0) (ns.getD 6 0) = 0 then some (ipP ns 4, ns.getD 4 0, ns.getD 5 0, ns.getD 6 0) else none := by
  obtain ⟨hlen, _, _⟩ := splitN_some _ _ _ hs
  obtain ⟨a, b, c, d, e, f, g, rfl⟩ := len7 hlen
  have h0 : a ≤ 255 := hle 0 (by omega)
  have h1 : b ≤ 255 := hle 1 (by omega)
  have h2 : c ≤ 255 := hle 2 (by omega)
  have h3 : d ≤ 255 := hle 3 (by omega)
  have hi : ipP [a, b, c, d, e, f, g] 4 = ipOf a b c d := by
    show (((0 * 256 + a) * 256 + b) * 256 + c) * 256 + d = ((a * 256 + b) * 256 + c) * 256 + d
    rw [Nat.zero_mul, Nat.zero_add]
  rw [hi]
  unfold parseR
  rw [hs]
  show (if _ then _ else _) = if faultOf (ipOf a b c d) (e : Nat) (f : Nat) (g : Nat) = 0 then _ else _
  by_cases hf : faultOf (ipOf a b c d) (e : Nat) (f : Nat) (g : Nat) = 0
  · rw [if_pos ⟨h0, h1, h2, h3, hf⟩, if_pos hf]; rfl
  · rw [if_neg (fun h => hf h.2.2.2.2), if_neg hf]

end Go.Proofs.YtlgghomjlhnijaaGreat

/- addr.numbers. -/
namespace Go.Proofs.YtlgghomjlhnijaaGreat
open Go.RowKit

/-- The numbers, k of the address's written. -/
def numsK (ip b lo hi k : Nat) : List Nat := [if 0 < k then ipB ip 0 else 0, if 1 < k then ipB ip 1 else 0, if 2 < k then ipB ip 2 else 0, if 3 < k then ipB ip 3 else 0, b, lo, hi]
theorem numsK_set (ip b lo hi k : Nat) (hk : k < 4) : (padN (numsK ip b lo hi k)).setIfInBounds k (.int .i64 (ipB ip k : Nat)) = padN (numsK ip b lo hi (k + 1)) := by
  match k, hk with
  | 0, _ => rfl
  | 1, _ => rfl
  | 2, _ => rfl
  | 3, _ => rfl
theorem numsK_end (ip b lo hi : Nat) (hip : ip < 4294967296) : numsK ip b lo hi 4 = netNums ip b lo hi := by
  show [ipB ip 0, ipB ip 1, ipB ip 2, ipB ip 3, b, lo, hi] = _
  unfold ipB netNums
  rw [show ip / 2 ^ (24 - 8 * 0) % 256 = ip / 16777216 by omega, show ip / 2 ^ (24 - 8 * 1) % 256 = ip / 65536 % 256 by omega, show ip / 2 ^ (24 - 8 * 2) % 256 = ip / 256 % 256 by omega, show ip / 2 ^ (24 - 8 * 3) % 256 = ip % 256 by omega]

end Go.Proofs.YtlgghomjlhnijaaGreat

/- addr.Text. -/
namespace Go.Proofs.YtlgghomjlhnijaaGreat
open Go.RowKit Go.Sort

/-- What Text hands back. -/
def textV (ip : Nat) (b lo hi : Int) : Value := .tuple #[.string (if faultOf ip b lo hi = 0 then ⟨(netText ip b.toNat lo.toNat hi.toNat).toArray⟩ else ⟨#[]⟩), errV (faultOf ip b lo hi)]

theorem wpList_forget {P : Program} {ops : Array Oper} {r : List Oper} {Q : Exit → Act → World → Prop} {a : Act} {W0 : World} (F : World → Prop) (h : F W0) (H : ∀ W, F W → wpList P ops Q r a W) : wpList P ops Q r a W0 := H _ h

/-- The text of the first k + 1 numbers. -/
def textK (ns : List Nat) (k : Nat) : List UInt8 := joinN (signsL.take k) ns
theorem textK_zero (ns : List Nat) (h : ns.length = 7) : textK ns 0 = Lib.decDigits (ns.getD 0 0) := by
  obtain ⟨a, b, c, d, e, f, g, rfl⟩ := len7 h
  rfl
theorem textK_succ (ns : List Nat) (h : ns.length = 7) (k : Nat) (hk : k < 6) : textK ns (k + 1) = textK ns k ++ (signsL.getD k 0 :: Lib.decDigits (ns.getD (k + 1) 0)) := by
  obtain ⟨a, b, c, d, e, f, g, rfl⟩ := len7 h
  match k, hk with
  | 0, _ => rfl
  | 1, _ => simp [textK, signsL, joinN]
  | 2, _ => simp [textK, signsL, joinN]
  | 3, _ => simp [textK, signsL, joinN]
  | 4, _ => simp [textK, signsL, joinN]
  | 5, _ => simp [textK, signsL, joinN]

theorem textK_len (ns : List Nat) (h : ns.length = 7) (hb : ∀ k, ns.getD k 0 < 100000) : ∀ k, k ≤ 6 → (textK ns k).length ≤ 6 * (k + 1)
  | 0, _ => by
    rw [textK_zero ns h, Lib.decDigits_length]
    have := nDigits_le5 _ (hb 0)
    omega
  | k + 1, hk => by
    rw [textK_succ ns h k (by omega), List.length_append, List.length_cons, Lib.decDigits_length]
    have := nDigits_le5 _ (hb (k + 1))
    have := textK_len ns h hb k (by omega)
    omega
theorem textK_all {ns : List Nat} {ip b lo hi : Nat} (h : ns = netNums ip b lo hi) : textK ns 6 = netText ip b lo hi := by rw [h]; rfl

end Go.Proofs.YtlgghomjlhnijaaGreat

/- policy.Text: a cond. -/
namespace Go.Proofs.YtlgghomjlhnijaaGreat
open Go.RowKit Go.Sort

theorem sign_len (j : Nat) (h : j ≤ 8) : (signW.getD j []).length ≤ 2 := by
  rcases nine h with rfl | rfl | rfl | rfl | rfl | rfl | rfl | rfl | rfl <;> decide
theorem bs32 : (⟨#[32]⟩ : ByteArray) = bs [32] := rfl
theorem netText_len {ip b lo hi : Nat} (hf : faultOf ip b lo hi = 0) (hip : ip < 4294967296) : (netText ip b lo hi).length ≤ 100 := by
  have hfo := fault_ok hf
  have hb : ∀ k, (netNums ip b lo hi).getD k 0 < 100000 := fun k => getD_lt (fun n hn => by
    simp only [netNums, List.mem_cons, List.not_mem_nil, or_false] at hn
    omega) k
  have := textK_len (netNums ip b lo hi) rfl hb 6 (by omega)
  rw [textK_all rfl] at this
  omega
theorem bs34 : (⟨#[34]⟩ : ByteArray) = bs [34] := rfl
end Go.Proofs.YtlgghomjlhnijaaGreat

/- policy.Text: rules, and a policy. -/
namespace Go.Proofs.YtlgghomjlhnijaaGreat
open Go.RowKit Go.Sort

/-- The text of the first i conds. -/
def condsT (cs : List CD) : W8 := match cs with
  | [] => []
  | _ => 32 :: joinC 32 (condsW true cs)
theorem condsW_app : ∀ (cs : List CD) (f : Bool) (c : CD), condsW f (cs ++ [c]) = condsW f cs ++ (if f && cs.isEmpty then wIf else wAnd) :: condW c
  | [], f, c => by cases f <;> simp [condsW]
  | x :: r, f, c => by
    rw [List.cons_append, condsW, condsW, condsW_app r false c]
    simp
theorem condsW_ne {cs : List CD} (f : Bool) (h : cs ≠ []) : condsW f cs ≠ [] := by
  cases cs with
  | nil => exact absurd rfl h
  | cons c r => simp [condsW]
theorem condsT_snoc (cs : List CD) (c : CD) : condsT (cs ++ [c]) = condsT cs ++ ((if cs.isEmpty then [32, 105, 102, 32] else [32, 97, 110, 100, 32]) ++ joinC 32 (condW c)) := by
  cases cs with
  | nil =>
    simp only [List.nil_append, condsT, condsW, List.append_nil]
    rw [join_cons 32 _ _ (condW_ne c)]
    rfl
  | cons x r =>
    have e : condsT (x :: r ++ [c]) = 32 :: joinC 32 (condsW true (x :: r ++ [c])) := rfl
    rw [e, condsW_app, join_app 32 _ (by simp) _ (condsW_ne true (by simp)), join_cons 32 _ _ (condW_ne c)]
    simp [condsT, wAnd]
theorem ruleT (r : RL) : joinC 32 (ruleW r) = joinC 32 (actW r.act) ++ 32 :: (nameOf r.nr ++ condsT r.conds) := by
  unfold ruleW
  rw [join_app 32 _ (by simp) _ (actW_ne _)]
  cases h : r.conds with
  | nil => simp [condsW, condsT, joinC]
  | cons c t => rw [join_cons 32 _ _ (condsW_ne true (by simp))]; rfl
theorem act_len {a : ACT} (h : actF a = 0) : (joinC 32 (actW a)).length ≤ 30 := by
  rcases act_cases h with rfl | rfl | ⟨n, h1, h2, rfl⟩
  · decide
  · decide
  · have := nDigits_le20 n (by omega)
    simp [actW, joinC, wDeny]
    omega
theorem name_len {nr : Int} (h0 : 0 ≤ nr) (h8 : nr ≤ 8) : (nameOf nr).length ≤ 7 := by
  obtain ⟨k, rfl⟩ : ∃ k : Nat, nr = k := ⟨nr.toNat, by omega⟩
  rcases nine (show k ≤ 8 by omega) with rfl | rfl | rfl | rfl | rfl | rfl | rfl | rfl | rfl <;> decide
theorem cond_len {c : CD} (h : Shape c) : (joinC 32 (condW c)).length ≤ 130 := by
  cases h with
  | num a k v ha h1 h6 hv =>
    have := nDigits_le20 a (by omega)
    have := nDigits_le20 v hv
    rcases six h1 h6 with rfl | rfl | rfl | rfl | rfl | rfl <;> (simp [condW, signOf, signW, joinC]; omega)
  | mask a v m ha hv hm =>
    have := nDigits_le20 a (by omega)
    have := nDigits_le20 v hv
    have := nDigits_le20 m hm
    simp [condW, signOf, signW, joinC]
    omega
  | like a g ha hg =>
    have := nDigits_le20 a (by omega)
    have := (glob_print hg).2
    rw [Lib.size_eq] at this
    simp [condW, signOf, signW, joinC]
    simp at this
    omega
  | net a ip b lo hi ha hip hf =>
    have := nDigits_le20 a (by omega)
    have := netText_len hf hip
    simp [condW, signOf, signW, joinC, netW]
    omega
theorem condsT_len : ∀ (n : Nat) (cs : List CD), cs.length = n → ShapeAll cs → (condsT cs).length ≤ n * 140
  | 0, cs, h, _ => by
    rw [List.length_eq_zero_iff.1 h]
    simp [condsT]
  | n + 1, cs, h, hs => by
    have hne : cs ≠ [] := fun e => by rw [e] at h; simp at h
    obtain ⟨ys, y, rfl⟩ : ∃ ys y, cs = ys ++ [y] := ⟨cs.dropLast, cs.getLast hne, (List.dropLast_concat_getLast hne).symm⟩
    rw [condsT_snoc]
    have h1 := condsT_len n ys (by simpa using h) fun c hc => hs c (by simp [hc])
    have h2 := cond_len (hs y (by simp))
    simp only [List.length_append]
    split <;> simp <;> omega
theorem rule_len {r : RL} (h : RuleOk r) : (joinC 32 (ruleW r)).length ≤ 600 := by
  rw [ruleT]
  have h1 := act_len h.act
  have h2 := name_len h.nr0 h.nr8
  have h3 := condsT_len _ r.conds rfl h.conds
  have h4 := h.few
  simp only [List.length_append, List.length_cons]
  omega
/-- The text of the first rules. -/
def rulesT (rs : List RL) : W8 := rs.flatMap fun r => joinC 32 (ruleW r) ++ [10]
theorem rulesT_snoc (rs : List RL) (r : RL) : rulesT (rs ++ [r]) = rulesT rs ++ (joinC 32 (ruleW r) ++ [10]) := by simp [rulesT]
theorem textT (p : POL) : textP p = [101, 108, 115, 101, 32] ++ joinC 32 (actW p.els) ++ [10] ++ rulesT p.rules := by
  unfold textP rulesT
  rw [join_cons 32 _ _ (actW_ne _)]
  simp [wElse]
theorem rulesT_len : ∀ rs : List RL, (∀ r ∈ rs, RuleOk r) → (rulesT rs).length ≤ rs.length * 601
  | [], _ => by simp [rulesT]
  | r :: t, h => by
    have h1 := rule_len (h r (by simp))
    have h2 := rulesT_len t fun x hx => h x (by simp [hx])
    simp only [rulesT, List.flatMap_cons, List.length_append, List.length_cons, List.length_nil] at h2 ⊢
    omega
theorem text_len {p : POL} (h : PolOk p) : (textP p).length ≤ 7500 := by
  rw [textT]
  have h1 := act_len h.els
  have h2 := rulesT_len p.rules h.rules
  have h3 := h.few
  simp only [List.length_append, List.length_cons, List.length_nil]
  omega
end Go.Proofs.YtlgghomjlhnijaaGreat

/- policy.Text: the walks over rules, and over a policy. -/
namespace Go.Proofs.YtlgghomjlhnijaaGreat
open Go.RowKit Go.Sort

theorem conds_parts {oa : Option Addr} {cs : List CD} {w : World} (hc : IsConds oa cs w) (n : Nat) (hn : n = cs.length) : 0 < n → ∃ b off, oa = some ⟨b, off, none⟩ ∧ b < w.heap.size ∧ Hid (∀ i c, cs[i]? = some c → CondAt w b (off + i * 9) c) := fun h => by
  obtain ⟨b, off, q1, q2, q3⟩ := hc.lie (by omega)
  exact ⟨b, off, q1, q2, hide q3⟩
/-- What stands ahead of the cond at i. -/
def joinB (i : Nat) : ByteArray := if i = 0 then ⟨#[32, 105, 102, 32]⟩ else ⟨#[32, 97, 110, 100, 32]⟩

/-- What Text hands back. -/
def ptextV (p : POL) : Value := .tuple #[.string (if polF p = 0 then bs (textP p) else ⟨#[]⟩), errV (polF p)]
end Go.Proofs.YtlgghomjlhnijaaGreat

/- Words of a line, taken off one by one. -/
namespace Go.Proofs.YtlgghomjlhnijaaGreat
open Go.RowKit Go.Sort

/-- All blocks but g are as they were; new ones may lie behind. -/
structure But (g : Nat) (w w' : World) : Prop where
  os : w'.os = w.os
  tape : w'.tape = w.tape
  output : w'.output = w.output
  size : w.heap.size ≤ w'.heap.size
  block : ∀ k, k < w.heap.size → k ≠ g → w'.heap[k]? = w.heap[k]?
theorem But.refl (g : Nat) (w : World) : But g w w := ⟨rfl, rfl, rfl, Nat.le_refl _, fun _ _ _ => rfl⟩
theorem But.trans {g : Nat} {a b c : World} (h : But g a b) (k : But g b c) : But g a c :=
  ⟨k.os.trans h.os, k.tape.trans h.tape, k.output.trans h.output, Nat.le_trans h.size k.size, fun i hi hn => (k.block i (Nat.lt_of_lt_of_le hi h.size) hn).trans (h.block i hi hn)⟩
theorem But.of {g : Nat} {w w' : World} (h : Below w.heap.size w w') : But g w w' := ⟨h.os, h.tape, h.output, h.size, fun k hk _ => h.block k hk⟩
theorem But.below {B g : Nat} {a w w' : World} (h : Below B a w) (hg : B ≤ g) (hB : B ≤ w.heap.size) (k : But g w w') : Below B a w' :=
  h.trans ⟨k.os, k.tape, k.output, k.size, fun i hi => k.block i (by omega) (by omega)⟩
theorem But.set (g o : Nat) (w : World) (v : Value) : But g w (w.setCell ⟨g, o, none⟩ v) := ⟨rfl, rfl, rfl, by simp [World.setCell], fun k _ hn => Below.heap_setCell _ _ _ _ hn⟩
theorem cell_heap {w w' : World} {b : Nat} (h : w'.heap[b]? = w.heap[b]?) (o : Nat) : w'.cell? ⟨b, o, none⟩ = w.cell? ⟨b, o, none⟩ := by
  unfold World.cell?
  simp only [h]
theorem frozen_heap {w w' : World} {b : Nat} (h : w'.heap[b]? = w.heap[b]?) (o : Nat) : w'.frozen? ⟨b, o, none⟩ = w.frozen? ⟨b, o, none⟩ := by
  unfold World.frozen?
  simp only [h]
theorem But.cell {g : Nat} {w w' : World} (k : But g w w') {b o : Nat} {v : Value} (hn : b ≠ g) (h : w.cell? ⟨b, o, none⟩ = some v) : w'.cell? ⟨b, o, none⟩ = some v :=
  (cell_heap (k.block b (block_lt_of_cell h) hn) o).trans h

/-- The words that are left, behind the pointer to block g; all lies below B. -/
structure IsWords (W : World) (g B : Nat) (ws : List W8) : Prop where
  ex : ∃ oa cap, W.cell? ⟨g, 0, none⟩ = some (.slice oa ws.length cap) ∧ ws.length ≤ cap ∧ cap ≤ maxLen ∧ (0 < ws.length → ∃ b off, oa = some ⟨b, off, none⟩ ∧ b ≠ g ∧ b < B ∧ ∀ i x, ws[i]? = some x → W.cell? ⟨b, off + i, none⟩ = some (.string (bs x)))
  fro : W.frozen? ⟨g, 0, none⟩ = false
  lt : g < B
  le : B ≤ W.heap.size
  small : ∀ x ∈ ws, x.length ≤ 9000
theorem IsWords.heap {W V : World} {g B : Nat} {ws : List W8} (h : IsWords W g B ws) (hs : B ≤ V.heap.size) (hb : ∀ k, k < B → V.heap[k]? = W.heap[k]?) : IsWords V g B ws := by
  obtain ⟨oa, cap, h1, h2, h3, h4⟩ := h.ex
  refine ⟨⟨oa, cap, (cell_heap (hb g h.lt) 0).trans h1, h2, h3, fun h0 => ?_⟩, (frozen_heap (hb g h.lt) 0).trans h.fro, h.lt, hs, h.small⟩
  obtain ⟨b, off, e, hn, hlt, hc⟩ := h4 h0
  exact ⟨b, off, e, hn, hlt, fun i x hi => (cell_heap (hb b hlt) _).trans (hc i x hi)⟩
theorem IsWords.on {W V : World} {g B : Nat} {ws : List W8} (h : IsWords W g B ws) (hb : Below W.heap.size W V) : IsWords V g B ws :=
  h.heap (Nat.le_trans h.le hb.size) fun k hk => hb.block k (Nat.lt_of_lt_of_le hk h.le)
theorem head_small {W : World} {g B : Nat} {ws : List W8} (h : IsWords W g B ws) : (ws.headD []).length ≤ 9000 := by
  cases ws with
  | nil => simp
  | cons x r => exact h.small x (by simp)

/-- .. the first one taken off. -/
theorem IsWords.next {w : World} {g B : Nat} {x : W8} {r : List W8} (h : IsWords w g B (x :: r)) {v : Value} (h1 : w.cell? ⟨g, 0, none⟩ = some v) {cc : Nat} (h2 : r.length ≤ cc) (h3 : cc ≤ maxLen) (oa : Option Addr)
    (h4 : 0 < r.length → ∃ b off, oa = some ⟨b, off, none⟩ ∧ b ≠ g ∧ b < B ∧ ∀ i x, r[i]? = some x → w.cell? ⟨b, off + i, none⟩ = some (.string (bs x))) : IsWords (w.setCell ⟨g, 0, none⟩ (.slice oa r.length cc)) g B r := by
  refine ⟨⟨oa, cc, World.cell?_setCell_same _ _ _ h1, h2, h3, fun h0 => ?_⟩, ?_, h.lt, Nat.le_trans h.le (But.set g 0 w _).size, fun y hy => h.small y (by simp [hy])⟩
  · obtain ⟨b, off, e, hn, hlt, hc⟩ := h4 h0
    exact ⟨b, off, e, hn, hlt, fun i x hi => (But.set g 0 w _).cell hn (hc i x hi)⟩
  · rw [World.frozen?_setCell]
    exact h.fro
/-! Numbers. -/
end Go.Proofs.YtlgghomjlhnijaaGreat

/- Names and signs found; a text cloned. -/
namespace Go.Proofs.YtlgghomjlhnijaaGreat
open Go.RowKit Go.Sort

theorem find_none {l : List W8} {x : W8} (h : ∀ i, i < l.length → l.getD i [] ≠ x) : l.findIdx? (· == x) = none := by
  rw [List.findIdx?_eq_none_iff]
  intro y hy
  obtain ⟨i, hi, rfl⟩ := List.mem_iff_getElem.1 hy
  have := h i hi
  rw [List.getD_eq_getElem?_getD, List.getElem?_eq_getElem hi, Option.getD_some] at this
  simpa using this
theorem find_at {l : List W8} {x : W8} {i : Nat} (hi : i < l.length) (h : l.getD i [] = x) (hj : ∀ j, j < i → l.getD j [] ≠ x) : l.findIdx? (· == x) = some i := by
  rw [List.findIdx?_eq_some_iff_getElem]
  rw [List.getD_eq_getElem?_getD, List.getElem?_eq_getElem hi, Option.getD_some] at h
  refine ⟨hi, by simpa using h, fun j hji => ?_⟩
  have := hj j hji
  rw [List.getD_eq_getElem?_getD, List.getElem?_eq_getElem (by omega), Option.getD_some] at this
  simpa using this
theorem bs_toList (l : W8) : (bs l).toList = l := by rw [Lib.toList_data, bs_data]

theorem forms_name (i : Nat) (h : i ≤ 8) : formsArr[i * 5]? = some (.string (bs (nameW.getD i []))) := by
  rcases nine h with rfl | rfl | rfl | rfl | rfl | rfl | rfl | rfl | rfl <;> rfl
end Go.Proofs.YtlgghomjlhnijaaGreat

/- readAction. -/
namespace Go.Proofs.YtlgghomjlhnijaaGreat
open Go.RowKit Go.Sort

theorem row_heap (X : World) (r k : Nat) (cs : Array Value) (h : k ≠ r) : (X.setRow r cs).heap[k]? = X.heap[k]? := setRow_other _ _ _ _ h
theorem row_size (X : World) (r : Nat) (cs : Array Value) : (X.setRow r cs).heap.size = X.heap.size := by simp [World.setRow]
/-- Another row written, one of the call's own. -/
theorem But.row {g r : Nat} {w X : World} (h : But g w X) (hr : w.heap.size ≤ r) (cs : Array Value) : But g w (X.setRow r cs) :=
  ⟨h.os, h.tape, h.output, by rw [row_size]; exact h.size, fun k hk hn => (row_heap X r k cs (by omega)).trans (h.block k hk hn)⟩
theorem IsWords.row {X : World} {g B r : Nat} {ws : List W8} (h : IsWords X g B ws) (hr : B ≤ r) (cs : Array Value) : IsWords (X.setRow r cs) g B ws :=
  h.heap (by rw [row_size]; exact h.le) fun k hk => row_heap X r k cs (by omega)
theorem size_action : (Tryz.prog.info? 24).map (·.size) = some 2 := by kernel_rfl

theorem one2 (a b : Int) : (#[.int .i64 a, .int .i64 b] : Array Value).all (·.oneCell') = true := by simp [Value.oneCell']
theorem beq_no {q x : W8} (h : q ≠ x) : (q == x) = false := by simpa using h

end Go.Proofs.YtlgghomjlhnijaaGreat

/- readCond. -/
namespace Go.Proofs.YtlgghomjlhnijaaGreat
open Go.RowKit Go.Sort

def condC (c : CD) : Array Value := #[.int .i64 c.arg, .int .i64 c.op, .int .u64 c.v, .int .u64 c.m, .string c.glob, .int .u32 c.net.ip, .int .i64 c.net.bits, .int .i64 c.net.lo, .int .i64 c.net.hi]
def zeroCD : CD := ⟨0, 0, 0, 0, ⟨#[]⟩, noNet⟩
theorem size_cond : (Tryz.prog.info? 71).map (·.size) = some 9 := by kernel_rfl
theorem condC_one (c : CD) : (condC c).all (·.oneCell') = true := by simp [condC, Value.oneCell']
theorem calls_forget {P : Program} {f : FuncId} {args : Array Value} {Q : Ending → World → Prop} {W0 : World} (F : World → Prop) (h : F W0) (H : ∀ W, F W → Calls P f args W Q) : Calls P f args W0 Q := H _ h
theorem trim_below {w w' : World} (h : w' = w ∨ w' = w.drew) : Below w.heap.size w w' := by
  rcases h with rfl | rfl
  · exact Below.refl _ _
  · exact (Below.refl _ _).drew
theorem parseV_net (x : W8) : ∃ (ip : Nat) (b lo hi : Int) (er : Value), parseV (parseR x) = .tuple #[netV ip b lo hi, er] ∧ netRead x = ⟨ip, b, lo, hi⟩ := by
  unfold netRead
  cases h : parseR x with
  | none => exact ⟨0, 0, 0, 0, _, rfl, rfl⟩
  | some p =>
    obtain ⟨ip, b, lo, hi⟩ := p
    exact ⟨ip, b, lo, hi, _, rfl, rfl⟩
theorem trimQ_size {x : W8} (h : x.length ≤ 9000) : (⟨(trimQ x).toArray⟩ : ByteArray).size ≤ 9000 := by
  have h1 : (trimQ x).length ≤ x.length := by
    unfold trimQ Lib.trimB Lib.trimLeftB Lib.trimRightB
    have e1 := (List.dropWhile_sublist (p := (· == (34 : UInt8))) (l := (List.dropWhile (· == (34 : UInt8)) x.reverse).reverse)).length_le
    have e2 := (List.dropWhile_sublist (p := (· == (34 : UInt8))) (l := x.reverse)).length_le
    simp only [List.length_reverse] at e1 e2
    omega
  simp only [ByteArray.size, List.size_toArray]
  omega

end Go.Proofs.YtlgghomjlhnijaaGreat

/- strings.Split at one byte. -/
namespace Go.Proofs.YtlgghomjlhnijaaGreat
open Go.RowKit Go.Sort

theorem indexByte_no (c : UInt8) : ∀ l : W8, c ∉ l → Lib.indexByte l c = -1
  | l, h => by
    cases hi : Lib.indexByte l c with
    | ofNat i =>
      have := (indexByte_split l c i hi)
      exact absurd (by rw [this.2]; simp) h
    | negSucc i =>
      have := Lib.index_ge l [c]
      rw [Lib.index_one, hi] at this
      omega
theorem splitK_C (c : UInt8) : ∀ (k : Nat) (l : W8), l.count c ≤ k → Lib.splitK [c] 0 k l = splitC c l
  | 0, l, h => by
    rw [splitC_self c l (List.count_eq_zero.1 (by omega))]
    rfl
  | k + 1, l, h => by
    by_cases hm : c ∈ l
    · obtain ⟨a, b, rfl, ha⟩ := List.eq_append_cons_of_mem hm
      have hix : Lib.index (a ++ c :: b) [c] = a.length := by rw [Lib.index_one, indexByte_app c b a ha]
      rw [Lib.splitK, hix, if_neg (by simp), splitC_app c b a ha]
      have e1 : (a ++ c :: b).take ((a.length : Int).toNat + 0) = a := by simp
      have e2 : (a ++ c :: b).drop ((a.length : Int).toNat + [c].length) = b := by simp [List.drop_append]
      rw [e1, e2, splitK_C c k b (by
        rw [List.count_append, List.count_cons_self] at h
        omega)]
    · have hix : Lib.index l [c] = -1 := by rw [Lib.index_one, indexByte_no c l hm]
      rw [Lib.splitK, hix, if_pos (by rfl), splitC_self c l hm]
theorem splitB_C (s : ByteArray) (c : UInt8) : (Lib.splitB ⟨#[c]⟩ 0 (Lib.countB s ⟨#[c]⟩) s) = (splitC c s.data.toList).map bs := by
  have h := Lib.splitB_data ⟨#[c]⟩ 0 (Lib.countB s ⟨#[c]⟩) s
  rw [show (⟨#[c]⟩ : ByteArray).data.toList = [c] from rfl, splitK_C c _ _ (by
    show s.data.toList.count c ≤ Lib.count s.data.toList [c]
    rw [Lib.count_one]
    exact Nat.le_refl _)] at h
  rw [← h, List.map_map]
  conv => lhs; rw [← List.map_id (Lib.splitB ⟨#[c]⟩ 0 (Lib.countB s ⟨#[c]⟩) s)]
  exact List.map_congr_left fun x _ => (bs_of x).symm
/-- The strings' cells. -/
def strsC (ws : List W8) : Array Value := (ws.map fun x => Value.string (bs x)).toArray
theorem split_small {c : UInt8} {l : W8} {n : Nat} (h : l.length ≤ n) : ∀ x ∈ splitC c l, x.length ≤ n := by
  have key : ∀ l : W8, ∀ x ∈ splitC c l, x.length ≤ l.length := by
    intro l
    induction l with
    | nil => intro x hx; simp [splitC] at hx; simp [hx]
    | cons y r ih =>
      intro x hx
      unfold splitC at hx
      split at hx
      · rcases List.mem_cons.1 hx with rfl | hx
        · simp
        · have := ih x hx; simp; omega
      · split at hx
        · rw [List.mem_singleton] at hx; subst hx; simp
        · rename_i p t he
          rcases List.mem_cons.1 hx with rfl | hx
          · have := ih p (by rw [he]; simp); simp; omega
          · have := ih x (by rw [he]; simp [hx]); simp; omega
  intro x hx
  exact Nat.le_trans (key l x hx) h
theorem split_len {c : UInt8} : ∀ l : W8, (splitC c l).length ≤ l.length + 1
  | [] => by simp [splitC]
  | y :: r => by
    have ih := split_len (c := c) r
    unfold splitC
    split
    · simp; omega
    · split
      · simp
      · rename_i p t he
        rw [he] at ih
        simp at ih ⊢
        omega
end Go.Proofs.YtlgghomjlhnijaaGreat

/- readRule. -/
namespace Go.Proofs.YtlgghomjlhnijaaGreat
open Go.RowKit Go.Sort

theorem numU_lt (x : W8) : numU x < 18446744073709551616 := by
  have key : ∀ (l : W8) (acc u : Nat), acc < 18446744073709551616 → Lib.parseUintM (2 ^ 64 - 1) acc l = .ok u → u < 18446744073709551616 := by
    intro l
    induction l with
    | nil =>
      intro acc u h1 h2
      simp only [Lib.parseUintM, Lib.NumEnd.ok.injEq] at h2
      omega
    | cons c r ih =>
      intro acc u h1 h2
      rw [Lib.parseUintM] at h2
      split at h2
      · split at h2
        · cases h2
        · split at h2
          · cases h2
          · exact ih _ u (by omega) h2
      · cases h2
  unfold numU
  cases h : Lib.parseUintB 64 x with
  | ok u =>
    unfold Lib.parseUintB at h
    split at h
    · cases h
    · exact key x 0 u (by omega) h
  | «syntax» => simp
  | range => simp
theorem toI_ok (n : Nat) : I64 (toI n) := by
  unfold I64 toI
  rw [IntKind.wrap_i64]
  omega
theorem findOp_le (x : W8) : findOp x ≤ 9 := by
  unfold findOp
  cases h : signW.findIdx? (· == x) with
  | none => simp
  | some i =>
    have := (find_some h).2
    simp [signW] at this ⊢
    omega
theorem netRead_ok (x : W8) : NtOk (netRead x) := by
  unfold netRead
  cases h : parseR x with
  | none => exact noNet_ok
  | some p =>
    obtain ⟨ip, b, lo, hi⟩ := p
    obtain ⟨hip, hf, _⟩ := parse_some h
    have hk := fault_ok hf
    exact ⟨hip, i64_nat (by omega), i64_nat (by omega), i64_nat (by omega)⟩
theorem readCond_ok (ws : List W8) : CdOk (readCond ws).1 := by
  have ho := findOp_le (ws.tail.headD [])
  unfold readCond
  simp only
  split
  · exact ⟨toI_ok _, i64_nat (by omega), by simp, by simp, noNet_ok⟩
  · split
    · exact ⟨toI_ok _, i64_nat (by omega), by simp, by simp, netRead_ok _⟩
    · split
      · exact ⟨toI_ok _, i64_nat (by omega), numU_lt _, numU_lt _, noNet_ok⟩
      · exact ⟨toI_ok _, i64_nat (by omega), numU_lt _, by simp, noNet_ok⟩
theorem readAct_ok (ws : List W8) : AcOk (readAct ws).1 := by
  unfold readAct
  split
  · exact ⟨i64_nat (k := 1) (by omega), i64_nat (k := 0) (by omega)⟩
  · split
    · exact ⟨i64_nat (k := 3) (by omega), i64_nat (k := 0) (by omega)⟩
    · split
      · exact ⟨i64_nat (k := 2) (by omega), toI_ok _⟩
      · exact ⟨i64_nat (k := 0) (by omega), i64_nat (k := 0) (by omega)⟩
theorem findCall_ok (x : W8) : I64 (findCall x) := by
  by_cases h : findCall x < 0
  · unfold findCall at h ⊢
    cases hf : nameW.findIdx? (· == x) with
    | none => unfold I64; simp
    | some i => rw [hf] at h; simp at h; omega
  · exact i64_small (by omega) (by have := (call_some h).2; omega)

/-- The cells of conds. -/
def flatC (cs : List CD) : List Value := cs.flatMap fun c => (condC c).toList
theorem flatC_len : ∀ cs : List CD, (flatC cs).length = cs.length * 9
  | [] => rfl
  | c :: r => by
    have := flatC_len r
    simp only [flatC, List.flatMap_cons, List.length_append, List.length_cons] at this ⊢
    rw [this, show (condC c).toList.length = 9 from rfl]
    omega
theorem flatC_snoc (cs : List CD) (c : CD) : flatC (cs ++ [c]) = flatC cs ++ (condC c).toList := by simp [flatC]
theorem flatC_get : ∀ (cs : List CD) (i : Nat) (c : CD) (j : Nat), cs[i]? = some c → j < 9 → (flatC cs)[i * 9 + j]? = (condC c).toList[j]?
  | [], i, c, j, h, _ => by simp at h
  | x :: r, 0, c, j, h, hj => by
    simp only [List.getElem?_cons_zero, Option.some.injEq] at h
    subst h
    simp only [flatC, List.flatMap_cons]
    rw [List.getElem?_append_left (by rw [show (condC x).toList.length = 9 from rfl]; omega)]
    congr 1
    omega
  | x :: r, i + 1, c, j, h, hj => by
    rw [List.getElem?_cons_succ] at h
    have ih := flatC_get r i c j h hj
    simp only [flatC, List.flatMap_cons] at ih ⊢
    rw [List.getElem?_append_right (by rw [show (condC x).toList.length = 9 from rfl]; omega), show (condC x).toList.length = 9 from rfl, show (i + 1) * 9 + j - 9 = i * 9 + j by omega]
    exact ih
theorem conds_owned {W : World} {base : Nat} {v : Value} {cs : List CD} (h : W.ownsRow base 71 9 v cs.length (flatC cs)) (hok : ∀ c ∈ cs, CdOk c) : ∃ oa cap, v = .slice oa cs.length cap ∧ cs.length ≤ cap ∧ cap ≤ maxLen ∧ IsConds oa cs W ∧ ∀ b off, oa = some ⟨b, off, none⟩ → base ≤ b ∧ b < W.heap.size := by
  have h' := h
  rcases h.2 with ⟨rfl, hn⟩ | ⟨g, cap, cur, rfl, hb, hg, h1, h2, h3, h4⟩
  · refine ⟨none, 0, by rw [hn], by omega, by unfold maxLen; omega, ⟨fun h0 => by omega⟩, fun b off e => by cases e⟩
  · refine ⟨_, cap, rfl, h1, h2, ⟨fun h0 => ⟨g, 0, rfl, (h'.lt g rfl).2, fun i c hc => ?_⟩⟩, fun b off e => by
      simp only [Option.some.injEq, Addr.mk.injEq] at e
      have := (h'.lt g rfl).2
      omega⟩
    have hcell : ∀ j u, j < 9 → (condC c).toList[j]? = some u → W.cell? ⟨g, 0 + i * 9 + j, none⟩ = some u := fun j u hj hu => by
      have h5 := h'.cells (g := g) rfl (i * 9 + j) u (by rw [flatC_get cs i c j hc hj]; exact hu)
      rwa [show (⟨g, 0, none⟩ : Addr).add (i * 9 + j) = ⟨g, 0 + i * 9 + j, none⟩ by unfold Addr.add; split <;> simp_all] at h5
    exact ⟨hcell 0 _ (by omega) rfl, hcell 1 _ (by omega) rfl, hcell 2 _ (by omega) rfl, hcell 3 _ (by omega) rfl, hcell 4 _ (by omega) rfl, hcell 5 _ (by omega) rfl, hcell 6 _ (by omega) rfl, hcell 7 _ (by omega) rfl, hcell 8 _ (by omega) rfl, hok c (List.mem_of_getElem? hc)⟩
theorem info_cond : ∃ i, Tryz.prog.info? 71 = some i ∧ i.zero = some (.agg (condC zeroCD)) ∧ i.size = 9 ∧ i.bytes = 80 := by
  have hz : (Tryz.prog.info? 71).map (·.zero) = some (some (.agg (condC zeroCD))) := by kernel_rfl
  have hs : (Tryz.prog.info? 71).map (·.size) = some 9 := by kernel_rfl
  have hb : (Tryz.prog.info? 71).map (·.bytes) = some 80 := by kernel_rfl
  cases hq : Tryz.prog.info? 71 with
  | none => rw [hq] at hs; simp at hs
  | some i =>
    rw [hq] at hz hs hb
    simp at hz hs hb
    exact ⟨i, rfl, hz, hs, hb⟩
theorem size_rule : (Tryz.prog.info? 67).map (·.size) = some 4 := by kernel_rfl

def ruleC (nr : Int) (sv : Value) (a : ACT) : Array Value := #[.int .i64 nr, sv, .int .i64 a.kind, .int .i64 a.errno]
theorem But.grown {g : Nat} {w w' : World} (h : But g w w') : w.grownBy w' (some g) := ⟨h.os, h.tape, h.output, h.size, fun k hk hn => h.block k hk (fun e => hn (by rw [e]))⟩
end Go.Proofs.YtlgghomjlhnijaaGreat

/- readRule: the walk. -/
namespace Go.Proofs.YtlgghomjlhnijaaGreat
open Go.RowKit Go.Sort

/-- Where the words' slice lies. -/
theorem words_len {X : World} {g B : Nat} {ws : List W8} (h : IsWords X g B ws) : ∃ oa cap, X.cell? ⟨g, 0, none⟩ = some (.slice oa ws.length cap) ∧ ws.length ≤ 9223372036854775807 := by
  obtain ⟨oa, cap, h1, h2, h3, _⟩ := h.ex
  unfold maxLen at h3
  exact ⟨oa, cap, h1, by omega⟩
theorem readConds_fuel : ∀ (n m : Nat) (l : List W8), l.length ≤ n → l.length ≤ m → readConds n l = readConds m l
  | 0, m, l, hn, _ => by
    rw [List.length_eq_zero_iff.1 (show l.length = 0 by omega)]
    cases m <;> simp [readConds]
  | n + 1, 0, l, _, hm => by
    rw [List.length_eq_zero_iff.1 (show l.length = 0 by omega)]
    simp [readConds]
  | n + 1, m + 1, l, hn, hm => by
    rw [readConds, readConds]
    by_cases h : l = []
    · rw [if_pos h, if_pos h]
    · have hp := List.length_pos_iff.2 h
      have hl := readCond_le l.tail
      rw [List.length_tail] at hl
      rw [if_neg h, if_neg h, readConds_fuel n m _ (by omega) (by omega)]
theorem readConds_step {l : List W8} (h : l ≠ []) : readConds l.length l = (readCond l.tail).1 :: readConds (readCond l.tail).2.length (readCond l.tail).2 := by
  have hp := List.length_pos_iff.2 h
  have hl := readCond_le l.tail
  rw [List.length_tail] at hl
  obtain ⟨n, hn⟩ : ∃ n, l.length = n + 1 := ⟨l.length - 1, by omega⟩
  rw [hn, readConds, if_neg h, readConds_fuel n _ _ (by omega) (Nat.le_refl _)]
theorem readAct_le (l : List W8) : (readAct l).2.length ≤ l.length := by
  unfold readAct
  split
  · simp
  · split
    · simp
    · split
      · simp; omega
      · simp
/-- How many words are left. -/
def lenAt (g : Nat) (w : World) : Nat := match w.cell? ⟨g, 0, none⟩ with
  | some (.slice _ n _) => n
  | _ => 0
theorem lenAt_words {X : World} {g B : Nat} {ws : List W8} (h : IsWords X g B ws) : lenAt g X = ws.length := by
  obtain ⟨oa, cap, h1, _⟩ := h.ex
  unfold lenAt
  rw [h1]

end Go.Proofs.YtlgghomjlhnijaaGreat

/- read: the laws. -/
namespace Go.Proofs.YtlgghomjlhnijaaGreat
open Go.RowKit Go.Sort

theorem readConds_ok : ∀ (n : Nat) (l : List W8), ∀ c ∈ readConds n l, CdOk c
  | 0, _, c, h => by cases h
  | n + 1, l, c, h => by
    rw [readConds] at h
    split at h
    · cases h
    · rcases List.mem_cons.1 h with rfl | h
      · exact readCond_ok _
      · exact readConds_ok n _ c h
theorem readRule_ok (line : W8) : RlOk (readRule line) := ⟨findCall_ok _, readConds_ok _ _, readAct_ok _⟩
theorem readP_ok (s : W8) : PlOk (readP s) := ⟨fun r hr => by
  unfold readP at hr
  obtain ⟨l, _, rfl⟩ := List.mem_map.1 hr
  exact readRule_ok l, readAct_ok _⟩

/-- A rule that was read, and where its conds lie. -/
abbrev RE := RL × Option Addr × Nat
def ruleE (e : RE) : Array Value := ruleC e.1.nr (.slice e.2.1 e.1.conds.length e.2.2) e.1.act
def flatR (es : List RE) : List Value := es.flatMap fun e => (ruleE e).toList
theorem flatR_snoc (es : List RE) (e : RE) : flatR (es ++ [e]) = flatR es ++ (ruleE e).toList := by simp [flatR]
theorem flatR_get : ∀ (es : List RE) (i : Nat) (e : RE) (j : Nat), es[i]? = some e → j < 4 → (flatR es)[i * 4 + j]? = (ruleE e).toList[j]?
  | [], i, e, j, h, _ => by simp at h
  | x :: r, 0, e, j, h, hj => by
    simp only [List.getElem?_cons_zero, Option.some.injEq] at h
    subst h
    simp only [flatR, List.flatMap_cons]
    rw [List.getElem?_append_left (by rw [show (ruleE x).toList.length = 4 from rfl]; omega)]
    congr 1
    omega
  | x :: r, i + 1, e, j, h, hj => by
    rw [List.getElem?_cons_succ] at h
    have ih := flatR_get r i e j h hj
    simp only [flatR, List.flatMap_cons] at ih ⊢
    rw [List.getElem?_append_right (by rw [show (ruleE x).toList.length = 4 from rfl]; omega), show (ruleE x).toList.length = 4 from rfl, show (i + 1) * 4 + j - 4 = i * 4 + j by omega]
    exact ih
theorem IsConds.heap {oa : Option Addr} {cs : List CD} {W V : World} (h : IsConds oa cs W) (hb : ∀ b off, oa = some ⟨b, off, none⟩ → b < W.heap.size → V.heap[b]? = W.heap[b]?) (hs : W.heap.size ≤ V.heap.size) : IsConds oa cs V :=
  ⟨fun h0 => by
    obtain ⟨b, off, h1, h2, h3⟩ := h.lie h0
    exact ⟨b, off, h1, Nat.lt_of_lt_of_le h2 hs, fun i c hi => (h3 i c hi).on fun j => cell_heap (hb b off h1 h2) j⟩⟩
/-- The conds of the rules lie where nothing is written any more. -/
def CondsOk (r5 : Nat) (sv : Value) (es : List RE) (X : World) : Prop := ∀ e ∈ es, RlOk e.1 ∧ IsConds e.2.1 e.1.conds X ∧ e.1.conds.length ≤ e.2.2 ∧ e.2.2 ≤ maxLen ∧ ∀ b off, e.2.1 = some ⟨b, off, none⟩ → r5 < b ∧ sv.ownBlock ≠ some b ∧ b < X.heap.size
theorem rules_owned {W : World} {base r5 : Nat} {v : Value} {es : List RE} (h : W.ownsRow base 67 4 v es.length (flatR es)) (hc : CondsOk r5 v es W) : ∃ oa cap, v = .slice oa es.length cap ∧ es.length ≤ cap ∧ cap ≤ maxLen ∧ IsRules oa (es.map (·.1)) W := by
  have h' := h
  rcases h.2 with ⟨rfl, hn⟩ | ⟨g, cap, cur, rfl, hb, hg, h1, h2, h3, h4⟩
  · exact ⟨none, 0, by rw [hn], by omega, by unfold maxLen; omega, ⟨fun h0 => by rw [List.length_map] at h0; omega⟩⟩
  · refine ⟨_, cap, rfl, h1, h2, ⟨fun h0 => ⟨g, 0, rfl, (h'.lt g rfl).2, fun i r hr => ?_⟩⟩⟩
    rw [List.getElem?_map] at hr
    cases he : es[i]? with
    | none => rw [he] at hr; cases hr
    | some e =>
      rw [he] at hr
      simp only [Option.map_some, Option.some.injEq] at hr
      subst hr
      have hcell : ∀ j u, j < 4 → (ruleE e).toList[j]? = some u → W.cell? ⟨g, 0 + i * 4 + j, none⟩ = some u := fun j u hj hu => by
        have h5 := h'.cells (g := g) rfl (i * 4 + j) u (by rw [flatR_get es i e j he hj]; exact hu)
        rwa [show (⟨g, 0, none⟩ : Addr).add (i * 4 + j) = ⟨g, 0 + i * 4 + j, none⟩ by unfold Addr.add; split <;> simp_all] at h5
      obtain ⟨q1, q2, q3, q4, _⟩ := hc e (List.mem_of_getElem? he)
      exact ⟨e.2.1, e.2.2, hcell 0 _ (by omega) rfl, hcell 1 _ (by omega) rfl, hcell 2 _ (by omega) rfl, hcell 3 _ (by omega) rfl, q2, q3, q4, q1⟩
theorem info_rule : ∃ i, Tryz.prog.info? 67 = some i ∧ i.zero = some (.agg (ruleC 0 (.slice none 0 0) ⟨0, 0⟩)) ∧ i.size = 4 ∧ i.bytes = 48 := by
  have hz : (Tryz.prog.info? 67).map (·.zero) = some (some (.agg (ruleC 0 (.slice none 0 0) ⟨0, 0⟩))) := by kernel_rfl
  have hs : (Tryz.prog.info? 67).map (·.size) = some 4 := by kernel_rfl
  have hb : (Tryz.prog.info? 67).map (·.bytes) = some 48 := by kernel_rfl
  cases hq : Tryz.prog.info? 67 with
  | none => rw [hq] at hs; simp at hs
  | some i =>
    rw [hq] at hz hs hb
    simp at hz hs hb
    exact ⟨i, rfl, hz, hs, hb⟩
theorem size_pol : (Tryz.prog.info? 26).map (·.size) = some 3 := by kernel_rfl

def polC (sv : Value) (a : ACT) : Array Value := #[sv, .int .i64 a.kind, .int .i64 a.errno]
/-- One rule more. -/
theorem condsOk_more {r5 : Nat} {sv : Value} {es : List RE} {X0 X1 Y : World} {e : RE} {o : Obj} {gg n cap : Nat} (h : CondsOk r5 sv es X0) (hb : Below X0.heap.size X0 X1) (he : RlOk e.1 ∧ IsConds e.2.1 e.1.conds X1 ∧ e.1.conds.length ≤ e.2.2 ∧ e.2.2 ≤ maxLen ∧ ∀ b off, e.2.1 = some ⟨b, off, none⟩ → X0.heap.size ≤ b ∧ b < X1.heap.size) (h5 : r5 < X0.heap.size)
    (hown : ∀ k, sv.ownBlock = some k → k < X0.heap.size) (hgrow : (X1.alloc o).grownBy Y sv.ownBlock) (hat : sv.ownBlock = some gg ∨ gg = X1.heap.size + 1) (V : World) (hV : ∀ k, k ≠ r5 → V.heap[k]? = Y.heap[k]?) (hVs : Y.heap.size ≤ V.heap.size) :
    CondsOk r5 (.slice (some ⟨gg, 0, none⟩) n cap) (es ++ [e]) V := by
  have hs1 := hb.size
  have hsY : X1.heap.size ≤ Y.heap.size := Nat.le_trans (box_below X1 o).size hgrow.size
  have hgg : ∀ b, b < X1.heap.size → sv.ownBlock ≠ some b → (Value.slice (some ⟨gg, 0, none⟩) n cap).ownBlock ≠ some b := fun b hb1 hb2 hc => by
    simp only [Value.ownBlock, Option.some.injEq] at hc
    subst hc
    rcases hat with h | h
    · exact hb2 h
    · omega
  intro x hx
  rcases List.mem_append.1 hx with hx | hx
  · obtain ⟨q1, q2, q3, q4, q5⟩ := h x hx
    refine ⟨q1, q2.heap (fun b off e0 hlt0 => ?_) (by omega), q3, q4, fun b off e0 => ?_⟩
    · obtain ⟨p1, p2, _⟩ := q5 b off e0
      rw [hV b (by omega), hgrow.block b (by rw [World.size_alloc]; omega) (fun e1 => p2 e1.symm), (box_below X1 o).block b (by omega), hb.block b hlt0]
    · obtain ⟨p1, p2, p3⟩ := q5 b off e0
      exact ⟨p1, hgg b (by omega) p2, by omega⟩
  · rw [List.mem_singleton] at hx
    subst hx
    obtain ⟨q1, q2, q3, q4, q5⟩ := he
    refine ⟨q1, q2.heap (fun b off e0 hlt0 => ?_) (by omega), q3, q4, fun b off e0 => ?_⟩
    · have p1 := q5 b off e0
      rw [hV b (by omega), hgrow.block b (by rw [World.size_alloc]; omega) (fun e1 => by have := hown b e1.symm; omega), (box_below X1 o).block b hlt0]
    · have p1 := q5 b off e0
      exact ⟨by omega, hgg b p1.2 (fun e1 => by have := hown b e1; omega), by omega⟩
end Go.Proofs.YtlgghomjlhnijaaGreat

/- read: the walk. -/
namespace Go.Proofs.YtlgghomjlhnijaaGreat
open Go.RowKit Go.Sort

theorem CondsOk.heap {r5 : Nat} {sv : Value} {es : List RE} {X Y : World} (h : CondsOk r5 sv es X) (hb : Below X.heap.size X Y) : CondsOk r5 sv es Y := fun e he => by
  obtain ⟨q1, q2, q3, q4, q5⟩ := h e he
  refine ⟨q1, q2.on hb, q3, q4, fun b off e0 => ?_⟩
  obtain ⟨p1, p2, p3⟩ := q5 b off e0
  exact ⟨p1, p2, Nat.lt_of_lt_of_le p3 hb.size⟩
theorem own_on {W V : World} {base size n : Nat} {e : TypeId} {v : Value} {xs : List Value} (h : W.ownsRow base e size v n xs) (hb : Below W.heap.size W V) : V.ownsRow base e size v n xs :=
  h.kept (row := none) ⟨hb.os, hb.tape, hb.output, hb.size, fun k hk _ => hb.block k hk⟩ (by
    cases hv : v.ownBlock with
    | none => exact .inl rfl
    | some k => exact .inr (by simp))
theorem own_but {W V : World} {base size n r : Nat} {e : TypeId} {v : Value} {xs : List Value} (h : W.ownsRow base e size v n xs) (hb : But r W V) (hr : r < base) : V.ownsRow base e size v n xs :=
  h.kept hb.grown (by
    by_cases he : v.ownBlock = some r
    · have := (h.lt _ he).1
      omega
    · exact .inr he)
theorem trimN_len (s : W8) : (trimN s).length ≤ s.length := by
  unfold trimN Lib.trimSuffix
  split
  · simp
  · exact Nat.le_refl _

end Go.Proofs.YtlgghomjlhnijaaGreat

/- policy.Parse. -/
namespace Go.Proofs.YtlgghomjlhnijaaGreat
open Go.RowKit Go.Sort

def zeroPol : POL := ⟨[], ⟨0, 0⟩⟩
/-- What Parse gives: a policy, and the error's number. -/
def parseP (s : W8) : POL × Nat := if 8000 < s.length then (zeroPol, 2) else match docP s with
  | some p => (p, 0)
  | none => (zeroPol, 4)
theorem zeroPol_is (W : World) : IsPol none 0 zeroPol W := ⟨IsRules.nil _ _, Nat.le_refl _, by unfold maxLen; omega, ⟨fun r hr => (by cases hr), ⟨i64_nat (k := 0) (by omega), i64_nat (k := 0) (by omega)⟩⟩⟩
theorem results_pol {fn : Func} {p u : Tmp} (h : fn.results = #[.cell p 26, .tmp u]) (tmps : Array Value) (w : World) (g : Nat) (cs : Array Value) (v : Value) (hs : cs.size = 3)
    (hp : tmps.getD p undef = .pointer (some ⟨g, 0, none⟩)) (hv : tmps.getD u undef = v) (hg : w.heap[g]? = some (.cells cs 26 (0, 0))) :
    (results fn tmps).run Tryz.prog w = .ok (.tuple #[.agg cs, v]) w := by
  rw [results_cell_tmp h, hp, hv]
  have hl := run_loadVar_row (P := Tryz.prog) w g 26 26 cs (0, 0) _ hg Tryz.underlying26 rfl (by rw [hs]; exact size_pol)
  simp [asAddr, hl]
/-- What lies in the row of a result that is still nought. -/
theorem nought_row {Z : World} {r j : Nat} {v : Value} (h : Z.heap[r]? = some (.cells #[.slice none 0 0, .int .i64 0, .int .i64 0] 26 (0, 0))) (hc : Z.cell? ⟨r, j, none⟩ = some v) : (j = 0 ∧ v = .slice none 0 0) ∨ v = .int .i64 0 := by
  rw [cell_of_row _ _ j _ _ _ h] at hc
  match j, hc with
  | 0, hc => left; simp at hc; exact ⟨rfl, hc.symm⟩
  | 1, hc => right; simp at hc; exact hc.symm
  | 2, hc => right; simp at hc; exact hc.symm
  | j + 3, hc => simp at hc
theorem IsConds.apart {oa : Option Addr} {cs : List CD} {Z : World} {r : Nat} (h : IsConds oa cs Z) (hr : Z.heap[r]? = some (.cells #[.slice none 0 0, .int .i64 0, .int .i64 0] 26 (0, 0))) (c : Array Value) : IsConds oa cs (Z.setRow r c) :=
  ⟨fun h0 => by
    obtain ⟨b, off, h1, h2, h3⟩ := h.lie h0
    have hne : b ≠ r := fun e => by
      subst e
      obtain ⟨y, hy⟩ : ∃ y, cs[0]? = some y := ⟨_, List.getElem?_eq_getElem h0⟩
      rcases nought_row hr (h3 0 y hy).k2 with ⟨_, h5⟩ | h5
      · cases h5
      · cases h5
    exact ⟨b, off, h1, by rw [row_size]; exact h2, fun i x hi => (h3 i x hi).on fun j => cell_heap (row_heap Z r b c hne) j⟩⟩
theorem IsPol.apart {oa : Option Addr} {cap : Nat} {p : POL} {Z : World} {r : Nat} (h : IsPol oa cap p Z) (hr : Z.heap[r]? = some (.cells #[.slice none 0 0, .int .i64 0, .int .i64 0] 26 (0, 0))) (c : Array Value) : IsPol oa cap p (Z.setRow r c) :=
  ⟨⟨fun h0 => by
    obtain ⟨b, off, h1, h2, h3⟩ := h.rules.lie h0
    have hne : b ≠ r := fun e => by
      subst e
      obtain ⟨y, hy⟩ : ∃ y, p.rules[0]? = some y := ⟨_, List.getElem?_eq_getElem h0⟩
      obtain ⟨ca, cc, h4⟩ := h3 0 y hy
      rcases nought_row hr h4.k1 with ⟨h5, _⟩ | h5
      · omega
      · cases h5
    refine ⟨b, off, h1, by rw [row_size]; exact h2, fun i x hi => ?_⟩
    obtain ⟨ca, cc, h4⟩ := h3 i x hi
    have hc := fun j => cell_heap (row_heap Z r b c hne) j
    exact ⟨ca, cc, (hc _).trans h4.k0, (hc _).trans h4.k1, (hc _).trans h4.k2, (hc _).trans h4.k3, h4.conds.apart hr c, h4.le, h4.cap, h4.ok⟩⟩, h.le, h.cap, h.ok⟩
theorem polC_one (oa : Option Addr) (n cap : Nat) (k e : Int) : (#[.slice oa n cap, .int .i64 k, .int .i64 e] : Array Value).all (·.oneCell') = true := by simp [Value.oneCell']

end Go.Proofs.YtlgghomjlhnijaaGreat

/- Calls and values; what a rule asks of them. -/
namespace Go.Proofs.YtlgghomjlhnijaaGreat
open Go.RowKit Go.Sort

/-- A call. -/
structure KL where
  arch : Nat
  nr : Nat
  a0 : Nat
  a1 : Nat
  a2 : Nat
  a3 : Nat
structure KlOk (c : KL) : Prop where
  arch : c.arch < 4294967296
  nr : c.nr < 4294967296
  a0 : c.a0 < 18446744073709551616
  a1 : c.a1 < 18446744073709551616
  a2 : c.a2 < 18446744073709551616
  a3 : c.a3 < 18446744073709551616
def klC (c : KL) : Array Value := #[.int .u32 c.arch, .int .u32 c.nr, .int .u64 c.a0, .int .u64 c.a1, .int .u64 c.a2, .int .u64 c.a3]
def klV (c : KL) : Value := .agg (klC c)
def regN (c : KL) : Nat → Nat
  | 0 => c.a0
  | 1 => c.a1
  | 2 => c.a2
  | 3 => c.a3
  | _ => 0
theorem regN_lt {c : KL} (h : KlOk c) (i : Nat) : regN c i < 18446744073709551616 := by
  match i with
  | 0 => exact h.a0
  | 1 => exact h.a1
  | 2 => exact h.a2
  | 3 => exact h.a3
  | i + 4 => simp [regN]
theorem regN_at (c : KL) (i : Nat) (h : i ≤ 3) : (klC c)[2 + i]? = some (.int .u64 (regN c i : Nat)) := by
  rcases (by omega : i = 0 ∨ i = 1 ∨ i = 2 ∨ i = 3) with rfl | rfl | rfl | rfl <;> rfl
/-- Does a cond on a number hold? -/
def holdsN (c : CD) (x : Nat) : Bool :=
  if c.op = 1 then x == c.v else if c.op = 2 then x != c.v else if c.op = 3 then decide (x < c.v) else if c.op = 4 then decide (x ≤ c.v)
  else if c.op = 5 then decide (c.v < x) else if c.op = 6 then decide (c.v ≤ x) else (x &&& c.m) == c.v

set_option maxHeartbeats 2000000 in
theorem holds_any (c : CD) (hc : CdOk c) (x : Nat) (hx : x < 18446744073709551616) (w : World) : Calls Tryz.prog 42 #[condV c, .int .u64 x] w fun e w' => e = .returned (.bool (holdsN c x)) ∧ Below w.heap.size w w' := by
  obtain ⟨arg, op, v, m, g, ⟨ip, b, lo, hi⟩⟩ := c
  have hand : bits .and .u64 (x : Int) (m : Int) = ((x &&& m : Nat) : Int) := u64_and_nat x m hx hc.m
  clear hc
  obtain ⟨y, hy⟩ : ∃ y : Nat, y = x &&& m := ⟨_, rfl⟩
  rw [← hy] at hand
  have HY := hide hy
  clear hy
  unfold condV
  simp only
  go_enter Tryz.func42, Tryz.ntmps42
  go_wp2
  all_goals
    go_ret
    refine ⟨ret_bool ?_, box_below _ _⟩
  all_goals
    clear hand
    first
    | (simp_all [holdsN]; done)
    | (rw [Bool.eq_iff_iff]; simp_all [holdsN]; done)
    | (rw [Bool.eq_iff_iff]; simp_all [holdsN]; omega)
    | (have := HY.out; rw [Bool.eq_iff_iff]; simp_all [holdsN]; omega)
end Go.Proofs.YtlgghomjlhnijaaGreat

/- fits, isDeep, leads. -/
namespace Go.Proofs.YtlgghomjlhnijaaGreat
open Go.RowKit Go.Sort

def numB (c : CD) : Bool := kindOp c.op == 1
/-- Does a cond that is on a number hold, or is it on none? -/
def regB (k : KL) (c : CD) : Bool := !numB c || holdsN c (regN k c.arg.toNat)
def fitsB (r : RL) (k : KL) : Bool := decide ((k.nr : Int) = r.nr) && r.conds.all (regB k)
def deepB (r : RL) : Bool := r.conds.any fun c => !numB c

theorem rule_parts {r : RL} {oa : Option Addr} {w : World} (hc : IsConds oa r.conds w) (n : Nat) (hn : n = r.conds.length) : 0 < n → ∃ b off, oa = some ⟨b, off, none⟩ ∧ b < w.heap.size ∧ Hid (∀ i c, r.conds[i]? = some c → CondAt w b (off + i * 9) c) := conds_parts hc n hn
theorem all_take_snoc {α : Type} {f : α → Bool} {l : List α} {i : Nat} {c : α} (h : l.take (i + 1) = l.take i ++ [c]) (h0 : (l.take i).all f = true) : (l.take (i + 1)).all f = f c := by rw [h, List.all_append, h0]; simp
theorem all_take_false {α : Type} {f : α → Bool} {l : List α} {i : Nat} (h : (l.take i).all f = false) : l.all f = false := by
  rw [← List.take_append_drop i l, List.all_append, h, Bool.false_and]

set_option maxHeartbeats 4000000 in
theorem isDeep_any (r : RL) (hf : r.conds.length ≤ 4) (oa : Option Addr) (cap : Nat) (w : World) (hc : IsConds oa r.conds w) :
    Calls Tryz.prog 67 #[ruleV r oa cap] w fun e w' => e = .returned (.bool (deepB r)) ∧ Below w.heap.size w w' := by
  obtain ⟨n, hn⟩ : ∃ n, n = r.conds.length := ⟨_, rfl⟩
  have HC := hide (conds_parts hc n hn)
  have h4 : n ≤ 4 := by omega
  have HL := hide (show ∀ i, i < n → ∃ c, r.conds[i]? = some c ∧ r.conds.take (i + 1) = r.conds.take i ++ [c] from fun i h => take_next (by omega))
  have HD := hide (show deepB r = !(r.conds.all numB) by unfold deepB; rw [List.any_eq_not_all_not]; simp)
  obtain ⟨z, hz⟩ : ∃ z, z = deepB r := ⟨_, rfl⟩
  rw [← hz] at HD ⊢
  clear hc hf hz
  obtain ⟨nr, cs, ⟨ak, ae⟩⟩ := r
  unfold ruleV
  simp only at HC HL HD hn ⊢
  rw [← hn]
  have HN := hide hn
  clear hn
  go_enter Tryz.func67, Tryz.ntmps67
  go_wp2
  obtain ⟨V, hV, hB, hsz, hx⟩ := one_box w #[.int .i64 nr, .slice oa n cap, .int .i64 ak, .int .i64 ae] 67
  rw [← hV]
  clear hV
  have k1 := hx 1
  go_loopw [7] (fun I w' => ∃ i : Nat, i ≤ n ∧ I = .int .i64 i ∧ Hid ((cs.take i).all numB = true) ∧ w' = V) (fun I _ => n - (intOf I).toNat)
  case atStart => exact ⟨0, by omega, rfl, hide rfl, rfl⟩
  case round =>
    obtain ⟨i, hi, rfl, HG, rfl⟩ := hrel
    by_cases hlt : i < n
    · obtain ⟨c, hcs, hcat⟩ := HL.out i hlt
      obtain ⟨b, off, rfl, hbw, HA⟩ := HC.out (by omega)
      have hA := (HA.out i c hcs).on fun j => (bcell hB).1 b j hbw
      have c1 := hA.k1
      have HQ := hide (all_take_snoc (f := numB) hcat HG.out)
      have HK := fun w => kindOf_any c.op w
      obtain ⟨ko, hko⟩ : ∃ k : Int, k = (kindOp c.op : Nat) := ⟨_, rfl⟩
      rw [← hko] at HK
      have hnb : numB c = (ko == 1) := by unfold numB; rw [hko, Bool.eq_iff_iff]; simp; omega
      rw [hnb] at HQ
      clear hko hnb hcs hcat hA hx
      obtain ⟨op, hop⟩ : ∃ o, o = c.op := ⟨_, rfl⟩
      rw [← hop] at HK c1
      clear hop
      cases hkb : (ko == 1) with
      | true =>
        rw [hkb] at HQ
        have hk1 : ko = 1 := by simpa using hkb
        subst hk1
        go_wp2_with (go_at_call 41; refine (HK _).mono ?_; rintro e w' ⟨rfl, rfl⟩)
        go_round
        case rel => exact ⟨i + 1, by omega, by go_num, HQ, trivial⟩
        case measure => simp [intOf]; omega
      | false =>
        rw [hkb] at HQ
        have hk1 : ¬ ko = 1 := by simpa using hkb
        have HZ := hide (show z = true by rw [HD.out, all_take_false HQ.out]; rfl)
        clear hkb
        go_wp2_with (go_at_call 41; refine (HK _).mono ?_; rintro e w' ⟨rfl, rfl⟩)
        go_ret
        exact ⟨ret_bool HZ.out.symm, hB⟩
    · obtain rfl : i = n := by omega
      have HZ := hide (show z = false by
        have := HG.out
        rw [List.take_of_length_le (by rw [HN.out]; exact Nat.le_refl _)] at this
        rw [HD.out, this]; rfl)
      go_wp2
      go_ret
      exact ⟨ret_bool HZ.out.symm, hB⟩

theorem shape_arg {c : CD} (h : Shape c) : ∃ a : Nat, c.arg = a ∧ a ≤ 3 := by
  cases h with
  | num a k v ha h1 h6 hv => exact ⟨a, rfl, ha⟩
  | mask a v m ha hv hm => exact ⟨a, rfl, ha⟩
  | like a g ha hg => exact ⟨a, rfl, ha⟩
  | net a ip b lo hi ha hip hf => exact ⟨a, rfl, ha⟩
set_option maxHeartbeats 4000000 in
theorem fits_any (r : RL) (h : RuleOk r) (oa : Option Addr) (cap : Nat) (k : KL) (hk : KlOk k) (w : World) (hc : IsConds oa r.conds w) :
    Calls Tryz.prog 28 #[ruleV r oa cap, klV k] w fun e w' => e = .returned (.bool (fitsB r k)) ∧ Below w.heap.size w w' := by
  obtain ⟨n, hn⟩ : ∃ n, n = r.conds.length := ⟨_, rfl⟩
  have HC := hide (conds_parts hc n hn)
  have h4 : n ≤ 4 := by have := h.few; omega
  have HSH := hide h.conds
  have HL := hide (show ∀ i, i < n → ∃ c, r.conds[i]? = some c ∧ r.conds.take (i + 1) = r.conds.take i ++ [c] from fun i h => take_next (by omega))
  obtain ⟨m, hm⟩ : ∃ m : Nat, r.nr = m := ⟨r.nr.toNat, by have := h.nr0; omega⟩
  have hm8 : m ≤ 8 := by have := h.nr8; omega
  have HZ := hide (show fitsB r k = (decide ((k.nr : Int) = r.nr) && r.conds.all (regB k)) from rfl)
  obtain ⟨z, hz⟩ : ∃ z, z = fitsB r k := ⟨_, rfl⟩
  rw [← hz] at HZ ⊢
  clear hc hz h
  obtain ⟨nr, cs, ⟨ak, ae⟩⟩ := r
  unfold ruleV klV klC
  simp only at HC HL HZ HSH hn hm ⊢
  subst hm
  rw [← hn]
  have HN := hide hn
  clear hn
  have hwr : IntKind.u32.wrap (m : Int) = m := by rw [IntKind.wrap_u32]; omega
  by_cases hne : k.nr = m
  · have HZ2 := hide (show z = cs.all (regB k) by rw [HZ.out, hne]; simp)
    have hnn : (k.nr : Int) = m := by omega
    clear HZ
    obtain ⟨V, hV, hB, hx, hy⟩ := two_box w #[.int .i64 m, .slice oa n cap, .int .i64 ak, .int .i64 ae] (klC k) 67 40
    have HY := hide hy
    have k1 := hx 1
    have kn := hy 1
    have kn2 : V.cell? ⟨w.heap.size + 1, 1, none⟩ = some (.int .u32 m) := by rw [kn]; show some (Value.int .u32 (k.nr : Int)) = _; rw [hnn]
    clear kn hy
    unfold klC at hV
    rw [hnn] at hV ⊢
    have HREG := hide (regN_at k)
    have HKO := hide (fun i => regN_lt hk i)
    obtain ⟨kar, hkar⟩ : ∃ x, x = k.arch := ⟨_, rfl⟩
    obtain ⟨kb0, hkb0⟩ : ∃ x, x = k.a0 := ⟨_, rfl⟩
    obtain ⟨kb1, hkb1⟩ : ∃ x, x = k.a1 := ⟨_, rfl⟩
    obtain ⟨kb2, hkb2⟩ : ∃ x, x = k.a2 := ⟨_, rfl⟩
    obtain ⟨kb3, hkb3⟩ : ∃ x, x = k.a3 := ⟨_, rfl⟩
    rw [← hkar, ← hkb0, ← hkb1, ← hkb2, ← hkb3] at hV ⊢
    clear hkar hkb0 hkb1 hkb2 hkb3 hk hne hnn
    go_enter Tryz.func28, Tryz.ntmps28
    go_wp2
    rw [← hV]
    clear hV
    go_loopw [16] (fun I w' => ∃ i : Nat, i ≤ n ∧ I = .int .i64 i ∧ Hid ((cs.take i).all (regB k) = true) ∧ Hid (Below V.heap.size V w')) (fun I _ => n - (intOf I).toNat)
    case atStart => exact ⟨0, by omega, rfl, hide rfl, hide (Below.refl _ _)⟩
    case round =>
      obtain ⟨i, hi, rfl, HG, HB⟩ := hrel
      have HW := hide (below_next hB HB.out)
      by_cases hlt : i < n
      · obtain ⟨c, hcs, hcat⟩ := HL.out i hlt
        obtain ⟨b, off, rfl, hbw, HA⟩ := HC.out (by omega)
        have hA := (HA.out i c hcs).on fun j => (bcell HW.out).1 b j hbw
        have HQ := hide (all_take_snoc (f := regB k) hcat HG.out)
        have hok := hA.ok
        obtain ⟨a, haa, ha3⟩ := shape_arg (HSH.out c (List.mem_of_getElem? hcs))
        obtain ⟨x, hxx⟩ : ∃ x, x = regN k a := ⟨_, rfl⟩
        have hxl : x < 18446744073709551616 := by rw [hxx]; exact HKO.out a
        have kreg := (HY.out (2 + a)).trans (HREG.out a ha3)
        rw [← hxx] at kreg
        have HH := fun w => holds_any c hok x hxl w
        have HRB := hide (show regB k c = (!numB c || holdsN c x) by unfold regB; rw [haa, Int.toNat_natCast, hxx])
        obtain ⟨hl, hhl⟩ : ∃ z, z = holdsN c x := ⟨_, rfl⟩
        rw [← hhl] at HH HRB
        have HK := fun w => kindOf_any c.op w
        obtain ⟨ko, hko⟩ : ∃ k : Int, k = (kindOp c.op : Nat) := ⟨_, rfl⟩
        rw [← hko] at HK
        have hnb : numB c = (ko == 1) := by unfold numB; rw [hko, Bool.eq_iff_iff]; simp; omega
        rw [hnb] at HRB
        rw [HRB.out] at HQ
        obtain ⟨p0, p1, p2, p3, p4, p5, p6, p7, p8, _⟩ := hA
        clear hko hnb hcs hcat hxx hxl hhl hok HRB
        obtain ⟨arg, op, v, mm, gl, ⟨ip, bb, lo, hh⟩⟩ := c
        unfold condV at HH
        simp only at p0 p1 p2 p3 p4 p5 p6 p7 p8 HH HK haa
        subst haa
        have g1 := keep_cell HB.out k1
        have i1 : (0 : Int) ≤ a := by omega
        have i2 : (a : Int) < 4 := by omega
        go_wp2
        obtain ⟨W1, hW1, hW1b, _, hW1c⟩ := one_box wr #[.int .i64 a, .int .i64 op, .int .u64 v, .int .u64 mm, .string gl, .int .u32 ip, .int .i64 bb, .int .i64 lo, .int .i64 hh] 71
        rw [← hW1]
        clear hW1
        have g0 := cell_regrown (hW1c 0)
        have g1' := cell_regrown (hW1c 1)
        have g2 := cell_regrown (hW1c 2)
        have g3 := cell_regrown (hW1c 3)
        have g4 := cell_regrown (hW1c 4)
        have g5 := cell_regrown (hW1c 5)
        have g6 := cell_regrown (hW1c 6)
        have g7 := cell_regrown (hW1c 7)
        have g8 := cell_regrown (hW1c 8)
        have gr := cell_regrown (keep_cell (below_next HB.out hW1b) kreg)
        have cK : ∀ d os, Calls Tryz.prog 41 #[.int .i64 op] (grow (redrawn W1 d) os) fun e w'' => e = .returned (.int .i64 ko) ∧ ∃ p : Regrown, w'' = grow (redrawn W1 p.d) p.os := fun d os => regrown_same (HK _)
        have cH : ∀ d os, Calls Tryz.prog 42 #[.agg #[.int .i64 a, .int .i64 op, .int .u64 v, .int .u64 mm, .string gl, .int .u32 ip, .int .i64 bb, .int .i64 lo, .int .i64 hh], .int .u64 x] (grow (redrawn W1 d) os) fun e w'' => e = .returned (.bool hl) ∧ ∃ p : Regrown, w'' = grow (redrawn W1 p.d) p.os := fun d os => Calls.regrown_of (HH _)
        clear hW1c p0 p1 p2 p3 p4 p5 p6 p7 p8 HH HK kreg
        cases hkb : (ko == 1) with
        | false =>
          rw [hkb] at HQ
          refine wp_region_quiet_below (by kernel_rfl) (by kernel_rfl) ?_
          repeat (go_big_quiet_step (first | (go_at_call 41; exact cK _ _) | (go_at_call 42; exact cH _ _)))
          refine wpQuiet_nil ?_
          intro _ hw'
          obtain ⟨⟨dq, osq⟩, hw''⟩ := hw'
          subst hw''
          go_wp2
          go_round
          case rel => exact ⟨i + 1, by omega, by go_num, HQ, hide (below_next (below_next HB.out hW1b) (below_regrown _ _ _))⟩
          case measure => simp [intOf]; omega
        | true =>
          rw [hkb] at HQ
          cases hl with
          | true =>
            refine wp_region_quiet_below (by kernel_rfl) (by kernel_rfl) ?_
            repeat (go_big_quiet_step (first | (go_at_call 41; exact cK _ _) | (go_at_call 42; exact cH _ _)))
            refine wpQuiet_nil ?_
            intro _ hw'
            obtain ⟨⟨dq, osq⟩, hw''⟩ := hw'
            subst hw''
            go_wp2
            go_round
            case rel => exact ⟨i + 1, by omega, by go_num, HQ, hide (below_next (below_next HB.out hW1b) (below_regrown _ _ _))⟩
            case measure => simp [intOf]; omega
          | false =>
            have HF := hide (show z = false by rw [HZ2.out]; exact all_take_false HQ.out)
            refine wp_region_quiet_below (by kernel_rfl) (by kernel_rfl) ?_
            repeat (go_big_quiet_step (first | (go_at_call 41; exact cK _ _) | (go_at_call 42; exact cH _ _)))
            refine wpQuiet_nil ?_
            intro _ hw'
            obtain ⟨⟨dq, osq⟩, hw''⟩ := hw'
            subst hw''
            go_wp2
            go_ret
            exact ⟨ret_bool HF.out.symm, below_next (below_next HW.out hW1b) (below_regrown _ _ _)⟩
      · obtain rfl : i = n := by omega
        have HF := hide (show z = true by
          have := HG.out
          rw [List.take_of_length_le (by rw [HN.out]; exact Nat.le_refl _)] at this
          rw [HZ2.out, this])
        go_wp2
        go_ret
        exact ⟨ret_bool HF.out.symm, HW.out⟩
  · have HF := hide (show z = false by
      rw [HZ.out, decide_eq_false (by omega), Bool.false_and])
    have hn1 : ¬ (k.nr : Int) = m := by omega
    clear hne HZ
    go_enter Tryz.func28, Tryz.ntmps28
    go_wp2
    go_ret
    exact ⟨ret_bool HF.out.symm, below_next (box_below _ _) (box_below _ _)⟩
end Go.Proofs.YtlgghomjlhnijaaGreat

/- leads. -/
namespace Go.Proofs.YtlgghomjlhnijaaGreat
open Go.RowKit Go.Sort

/-- A value that a pointer leads to. -/
structure VL where
  path : ByteArray
  ip : Nat
  port : Int
structure VlOk (v : VL) : Prop where
  path : v.path.size ≤ 1000
  ip : v.ip < 4294967296
  port : I64 v.port
/-- The values of a call. -/
structure VS where
  v0 : VL
  v1 : VL
  v2 : VL
  v3 : VL
def VS.at (v : VS) : Nat → VL
  | 0 => v.v0
  | 1 => v.v1
  | 2 => v.v2
  | _ => v.v3
structure VsOk (v : VS) : Prop where
  v0 : VlOk v.v0
  v1 : VlOk v.v1
  v2 : VlOk v.v2
  v3 : VlOk v.v3
theorem VsOk.at {v : VS} (h : VsOk v) (i : Nat) : VlOk (v.at i) := by
  match i with
  | 0 => exact h.v0
  | 1 => exact h.v1
  | 2 => exact h.v2
  | i + 3 => exact h.v3
def vsC (v : VS) : Array Value := #[.string v.v0.path, .int .u32 v.v0.ip, .int .i64 v.v0.port, .string v.v1.path, .int .u32 v.v1.ip, .int .i64 v.v1.port, .string v.v2.path, .int .u32 v.v2.ip, .int .i64 v.v2.port, .string v.v3.path, .int .u32 v.v3.ip, .int .i64 v.v3.port]
def vsV (v : VS) : Value := .agg (vsC v)
theorem vsC_at (v : VS) (i : Nat) (h : i ≤ 3) : (vsC v)[i * 3]? = some (.string (v.at i).path) ∧ (vsC v)[i * 3 + 1]? = some (.int .u32 (v.at i).ip) ∧ (vsC v)[i * 3 + 2]? = some (.int .i64 (v.at i).port) := by
  rcases (by omega : i = 0 ∨ i = 1 ∨ i = 2 ∨ i = 3) with rfl | rfl | rfl | rfl <;> exact ⟨rfl, rfl, rfl⟩
def netHas (n : NT) (y : VL) : Bool := hasOf n.ip n.bits n.lo n.hi y.ip y.port
/-- Does a cond on what a pointer leads to hold, or is it on none? -/
def leadB (v : VS) (c : CD) : Bool := if c.op = 8 then Gl.matchR c.glob (v.at c.arg.toNat).path else if c.op = 9 then netHas c.net (v.at c.arg.toNat) else true
def leadsB (r : RL) (v : VS) : Bool := r.conds.all (leadB v)

set_option maxHeartbeats 4000000 in
set_option maxRecDepth 100000 in
theorem leads_any (r : RL) (h : RuleOk r) (oa : Option Addr) (cap : Nat) (v : VS) (hv : VsOk v) (w : World) (hc : IsConds oa r.conds w) :
    Calls Tryz.prog 29 #[ruleV r oa cap, vsV v] w fun e w' => e = .returned (.bool (leadsB r v)) ∧ Below w.heap.size w w' := by
  obtain ⟨n, hn⟩ : ∃ n, n = r.conds.length := ⟨_, rfl⟩
  have HC := hide (conds_parts hc n hn)
  have h4 : n ≤ 4 := by have := h.few; omega
  have HSH := hide h.conds
  have HL := hide (show ∀ i, i < n → ∃ c, r.conds[i]? = some c ∧ r.conds.take (i + 1) = r.conds.take i ++ [c] from fun i h => take_next (by omega))
  have HZ := hide (show leadsB r v = r.conds.all (leadB v) from rfl)
  obtain ⟨z, hz⟩ : ∃ z, z = leadsB r v := ⟨_, rfl⟩
  rw [← hz] at HZ ⊢
  clear hc hz h
  obtain ⟨nr, cs, ⟨ak, ae⟩⟩ := r
  obtain ⟨vc, hvc⟩ : ∃ c, c = vsC v := ⟨_, rfl⟩
  have hvs : vc.size = 12 := by rw [hvc]; rfl
  unfold ruleV vsV
  simp only at HC HL HZ HSH hn ⊢
  rw [← hn, ← hvc]
  have HN := hide hn
  have HVC := hide hvc
  clear hn hvc
  obtain ⟨V, hV, hB, hx, hy⟩ := two_box w #[.int .i64 nr, .slice oa n cap, .int .i64 ak, .int .i64 ae] vc 67 52
  have HY := hide hy
  have k1 := hx 1
  clear hy
  go_enter Tryz.func29, Tryz.ntmps29
  go_wp2
  rw [← hV]
  clear hV
  go_loopw [11] (fun I w' => ∃ i : Nat, i ≤ n ∧ I = .int .i64 i ∧ Hid ((cs.take i).all (leadB v) = true) ∧ Hid (Below V.heap.size V w')) (fun I _ => n - (intOf I).toNat)
  case atStart => exact ⟨0, by omega, rfl, hide rfl, hide (Below.refl _ _)⟩
  case round =>
    obtain ⟨i, hi, rfl, HG, HB⟩ := hrel
    have HW := hide (below_next hB HB.out)
    by_cases hlt : i < n
    · obtain ⟨c, hcs, hcat⟩ := HL.out i hlt
      obtain ⟨b, off, rfl, hbw, HA⟩ := HC.out (by omega)
      have hA := (HA.out i c hcs).on fun j => (bcell HW.out).1 b j hbw
      have HQ := hide (all_take_snoc (f := leadB v) hcat HG.out)
      have hok := hA.ok
      have hsh := HSH.out c (List.mem_of_getElem? hcs)
      obtain ⟨a, haa, ha3⟩ := shape_arg hsh
      obtain ⟨y, hyy⟩ : ∃ y, y = v.at a := ⟨_, rfl⟩
      have hyo : VlOk y := by rw [hyy]; exact hv.at a
      have hya := vsC_at v a ha3
      rw [← HVC.out, ← hyy] at hya
      have q0 := keep_cell HB.out ((HY.out (a * 3)).trans hya.1)
      have q1 := keep_cell HB.out ((HY.out (a * 3 + 1)).trans hya.2.1)
      have q2 := keep_cell HB.out ((HY.out (a * 3 + 2)).trans hya.2.2)
      have lw : w.heap.size + 1 < wr.heap.size := block_lt_of_cell q0
      have g1 := keep_cell HB.out k1
      have HM := fun (hg : c.glob.size ≤ 24) w => Gl.match_any c.glob y.path (by omega) hyo.path w
      have HH := fun w => has_any c.net.ip hok.net.ip c.net.bits c.net.lo c.net.hi hok.net.bits hok.net.lo hok.net.hi y.ip hyo.ip y.port w
      have hlb : leadB v c = if c.op = 8 then Gl.matchR c.glob y.path else if c.op = 9 then netHas c.net y else true := by unfold leadB; rw [haa, Int.toNat_natCast, hyy]
      rw [hlb] at HQ
      have hgl : c.op = 8 → c.glob.size ≤ 24 := fun h8 => by
        cases hsh with
        | num a k v ha h1 h6 hv => simp only at h8; omega
        | mask a v m ha hv hm => simp only at h8; omega
        | like a g ha hg => exact (glob_print hg).2
        | net a ip b lo hi ha hip hf => simp only at h8; omega
      obtain ⟨p0, p1, p2, p3, p4, p5, p6, p7, p8, _⟩ := hA
      clear hsh hya hyy hyo hok hcs hcat hlb
      obtain ⟨yp, yi, yo⟩ := y
      obtain ⟨arg, op, vv, mm, gl, ⟨ip, bb, lo, hh⟩⟩ := c
      simp only at p0 p1 p2 p3 p4 p5 p6 p7 p8 HH HM haa hgl HQ q0 q1 q2
      unfold netHas at HQ
      simp only at HQ
      subst haa
      have i1 : (0 : Int) ≤ a := by omega
      have i2 : (a : Int) < 4 := by omega
      by_cases h8 : op = 8
      · subst h8
        replace HM := HM (hgl rfl)
        rw [if_pos rfl] at HQ
        obtain ⟨mr, hmr⟩ : ∃ m, m = Gl.matchR gl yp := ⟨_, rfl⟩
        rw [← hmr] at HQ HM
        clear hmr hgl HH
        cases mr with
        | true =>
          go_wp2_with (go_at_call 43; refine (HM _).mono ?_; rintro e w1 ⟨rfl, hb1⟩)
          go_round
          case rel => exact ⟨i + 1, by omega, by go_num, HQ, hide (below_next (below_next HB.out (below_next (box_below _ _) (box_below _ _))) hb1)⟩
          case measure => simp [intOf]; omega
        | false =>
          have HF := hide (show z = false by rw [HZ.out]; exact all_take_false HQ.out)
          go_wp2_with (go_at_call 43; refine (HM _).mono ?_; rintro e w1 ⟨rfl, hb1⟩)
          go_ret
          exact ⟨ret_bool HF.out.symm, below_next (below_next HW.out (below_next (box_below _ _) (box_below _ _))) hb1⟩
      · rw [if_neg h8] at HQ
        by_cases h9 : op = 9
        · subst h9
          rw [if_pos rfl] at HQ
          obtain ⟨mr, hmr⟩ : ∃ m, m = hasOf ip bb lo hh yi yo := ⟨_, rfl⟩
          rw [← hmr] at HQ HH
          clear hmr hgl HM
          cases mr with
          | true =>
            go_wp2_with (go_at_call 44; refine (HH _).mono ?_; rintro e w1 ⟨rfl, hb1⟩)
            go_round
            case rel => exact ⟨i + 1, by omega, by go_num, HQ, hide (below_next (below_next HB.out (below_next (box_below _ _) (box_below _ _))) hb1)⟩
            case measure => simp [intOf]; omega
          | false =>
            have HF := hide (show z = false by rw [HZ.out]; exact all_take_false HQ.out)
            go_wp2_with (go_at_call 44; refine (HH _).mono ?_; rintro e w1 ⟨rfl, hb1⟩)
            go_ret
            exact ⟨ret_bool HF.out.symm, below_next (below_next HW.out (below_next (box_below _ _) (box_below _ _))) hb1⟩
        · rw [if_neg h9] at HQ
          clear HM HH hgl
          go_wp2
          go_round
          case rel => exact ⟨i + 1, by omega, by go_num, HQ, hide (below_next HB.out (below_next (box_below _ _) (box_below _ _)))⟩
          case measure => simp [intOf]; omega
    · obtain rfl : i = n := by omega
      have HF := hide (show z = true by
        have := HG.out
        rw [List.take_of_length_le (by rw [HN.out]; exact Nat.le_refl _)] at this
        rw [HZ.out, this])
      go_wp2
      go_ret
      exact ⟨ret_bool HF.out.symm, HW.out⟩
end Go.Proofs.YtlgghomjlhnijaaGreat
