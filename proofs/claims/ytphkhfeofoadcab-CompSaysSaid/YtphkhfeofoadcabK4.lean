/- policy.Text: rules, and a policy. -/
import Derived.Test.YtphkhfeofoadcabK3
import Derived.Lib.SplitLaws
import Derived.Lib.IndexBytes
import Derived.Deep.AppendLies
import Derived.Lib.SmallJoins
import Derived.Deep.RegionLaw
import Derived.Test.YtphkhfeofoadcabK1
import Derived.Laws.BitsAllLaws
namespace Go.Proofs.Ytphkhfeofoadcab
open Go.RowKit Go.Sort

/-- The text of the first i conds. -/
def condsT (cs : List CD) : W8 := match cs with
  | [] => []
  | _ => 32 :: joinC 32 (condsW true cs)
theorem condsW_app : ∀ (cs : List CD) (f : Bool) (c : CD), condsW f (cs ++ [c]) = condsW f cs ++ (if f && cs.isEmpty then wIf else wAnd) :: condW c
  | [], f, c => by cases f <;> simp [condsW]
  | x :: r, f, c => by
    rw [List.cons_append, condsW, condsW, condsW_app r false c]
    simp
theorem condsW_ne {cs : List CD} (f : Bool) (h : cs ≠ []) : condsW f cs ≠ [] := by
  cases cs with
  | nil => exact absurd rfl h
  | cons c r => simp [condsW]
theorem condsT_snoc (cs : List CD) (c : CD) : condsT (cs ++ [c]) = condsT cs ++ ((if cs.isEmpty then [32, 105, 102, 32] else [32, 97, 110, 100, 32]) ++ joinC 32 (condW c)) := by
  cases cs with
  | nil =>
    simp only [List.nil_append, condsT, condsW, List.append_nil]
    rw [join_cons 32 _ _ (condW_ne c)]
    rfl
  | cons x r =>
    have e : condsT (x :: r ++ [c]) = 32 :: joinC 32 (condsW true (x :: r ++ [c])) := rfl
    rw [e, condsW_app, join_app 32 _ (by simp) _ (condsW_ne true (by simp)), join_cons 32 _ _ (condW_ne c)]
    simp [condsT, wAnd]
theorem ruleT (r : RL) : joinC 32 (ruleW r) = joinC 32 (actW r.act) ++ 32 :: (nameOf r.nr ++ condsT r.conds) := by
  unfold ruleW
  rw [join_app 32 _ (by simp) _ (actW_ne _)]
  cases h : r.conds with
  | nil => simp [condsW, condsT, joinC]
  | cons c t => rw [join_cons 32 _ _ (condsW_ne true (by simp))]; rfl
theorem act_len {a : ACT} (h : actF a = 0) : (joinC 32 (actW a)).length ≤ 30 := by
  rcases act_cases h with rfl | rfl | ⟨n, h1, h2, rfl⟩
  · decide
  · decide
  · have := nDigits_le20 n (by omega)
    simp [actW, joinC, wDeny]
    omega
theorem name_len {nr : Int} (h0 : 0 ≤ nr) (h8 : nr ≤ 8) : (nameOf nr).length ≤ 7 := by
  obtain ⟨k, rfl⟩ : ∃ k : Nat, nr = k := ⟨nr.toNat, by omega⟩
  rcases nine (show k ≤ 8 by omega) with rfl | rfl | rfl | rfl | rfl | rfl | rfl | rfl | rfl <;> decide
theorem cond_len {c : CD} (h : Shape c) : (joinC 32 (condW c)).length ≤ 130 := by
  cases h with
  | num a k v ha h1 h6 hv =>
    have := nDigits_le20 a (by omega)
    have := nDigits_le20 v hv
    rcases six h1 h6 with rfl | rfl | rfl | rfl | rfl | rfl <;> (simp [condW, signOf, signW, joinC]; omega)
  | mask a v m ha hv hm =>
    have := nDigits_le20 a (by omega)
    have := nDigits_le20 v hv
    have := nDigits_le20 m hm
    simp [condW, signOf, signW, joinC]
    omega
  | like a g ha hg =>
    have := nDigits_le20 a (by omega)
    have := (glob_print hg).2
    rw [Lib.size_eq] at this
    simp [condW, signOf, signW, joinC]
    simp at this
    omega
  | net a ip b lo hi ha hip hf =>
    have := nDigits_le20 a (by omega)
    have := netText_len hf hip
    simp [condW, signOf, signW, joinC, netW]
    omega
theorem condsT_len : ∀ (n : Nat) (cs : List CD), cs.length = n → ShapeAll cs → (condsT cs).length ≤ n * 140
  | 0, cs, h, _ => by
    rw [List.length_eq_zero_iff.1 h]
    simp [condsT]
  | n + 1, cs, h, hs => by
    have hne : cs ≠ [] := fun e => by rw [e] at h; simp at h
    obtain ⟨ys, y, rfl⟩ : ∃ ys y, cs = ys ++ [y] := ⟨cs.dropLast, cs.getLast hne, (List.dropLast_concat_getLast hne).symm⟩
    rw [condsT_snoc]
    have h1 := condsT_len n ys (by simpa using h) fun c hc => hs c (by simp [hc])
    have h2 := cond_len (hs y (by simp))
    simp only [List.length_append]
    split <;> simp <;> omega
theorem rule_len {r : RL} (h : RuleOk r) : (joinC 32 (ruleW r)).length ≤ 600 := by
  rw [ruleT]
  have h1 := act_len h.act
  have h2 := name_len h.nr0 h.nr8
  have h3 := condsT_len _ r.conds rfl h.conds
  have h4 := h.few
  simp only [List.length_append, List.length_cons]
  omega
/-- The text of the first rules. -/
def rulesT (rs : List RL) : W8 := rs.flatMap fun r => joinC 32 (ruleW r) ++ [10]
theorem rulesT_snoc (rs : List RL) (r : RL) : rulesT (rs ++ [r]) = rulesT rs ++ (joinC 32 (ruleW r) ++ [10]) := by simp [rulesT]
theorem textT (p : POL) : textP p = [101, 108, 115, 101, 32] ++ joinC 32 (actW p.els) ++ [10] ++ rulesT p.rules := by
  unfold textP rulesT
  rw [join_cons 32 _ _ (actW_ne _)]
  simp [wElse]
theorem rulesT_len : ∀ rs : List RL, (∀ r ∈ rs, RuleOk r) → (rulesT rs).length ≤ rs.length * 601
  | [], _ => by simp [rulesT]
  | r :: t, h => by
    have h1 := rule_len (h r (by simp))
    have h2 := rulesT_len t fun x hx => h x (by simp [hx])
    simp only [rulesT, List.flatMap_cons, List.length_append, List.length_cons, List.length_nil] at h2 ⊢
    omega
theorem text_len {p : POL} (h : PolOk p) : (textP p).length ≤ 7500 := by
  rw [textT]
  have h1 := act_len h.els
  have h2 := rulesT_len p.rules h.rules
  have h3 := h.few
  simp only [List.length_append, List.length_cons, List.length_nil]
  omega
end Go.Proofs.Ytphkhfeofoadcab

/- policy.Text: the walks over rules, and over a policy. -/
namespace Go.Proofs.Ytphkhfeofoadcab
open Go.RowKit Go.Sort

theorem conds_parts {oa : Option Addr} {cs : List CD} {w : World} (hc : IsConds oa cs w) (n : Nat) (hn : n = cs.length) : 0 < n → ∃ b off, oa = some ⟨b, off, none⟩ ∧ b < w.heap.size ∧ Hid (∀ i c, cs[i]? = some c → CondAt w b (off + i * 9) c) := fun h => by
  obtain ⟨b, off, q1, q2, q3⟩ := hc.lie (by omega)
  exact ⟨b, off, q1, q2, hide q3⟩
/-- What stands ahead of the cond at i. -/
def joinB (i : Nat) : ByteArray := if i = 0 then ⟨#[32, 105, 102, 32]⟩ else ⟨#[32, 97, 110, 100, 32]⟩

/-- What Text hands back. -/
def ptextV (p : POL) : Value := .tuple #[.string (if polF p = 0 then bs (textP p) else ⟨#[]⟩), errV (polF p)]
end Go.Proofs.Ytphkhfeofoadcab

/- Words of a line, taken off one by one. -/
namespace Go.Proofs.Ytphkhfeofoadcab
open Go.RowKit Go.Sort

/-- All blocks but g are as they were; new ones may lie behind. -/
structure But (g : Nat) (w w' : World) : Prop where
  os : w'.os = w.os
  tape : w'.tape = w.tape
  output : w'.output = w.output
  size : w.heap.size ≤ w'.heap.size
  block : ∀ k, k < w.heap.size → k ≠ g → w'.heap[k]? = w.heap[k]?
theorem But.refl (g : Nat) (w : World) : But g w w := ⟨rfl, rfl, rfl, Nat.le_refl _, fun _ _ _ => rfl⟩
theorem But.trans {g : Nat} {a b c : World} (h : But g a b) (k : But g b c) : But g a c :=
  ⟨k.os.trans h.os, k.tape.trans h.tape, k.output.trans h.output, Nat.le_trans h.size k.size, fun i hi hn => (k.block i (Nat.lt_of_lt_of_le hi h.size) hn).trans (h.block i hi hn)⟩
theorem But.of {g : Nat} {w w' : World} (h : Below w.heap.size w w') : But g w w' := ⟨h.os, h.tape, h.output, h.size, fun k hk _ => h.block k hk⟩
theorem But.below {B g : Nat} {a w w' : World} (h : Below B a w) (hg : B ≤ g) (hB : B ≤ w.heap.size) (k : But g w w') : Below B a w' :=
  h.trans ⟨k.os, k.tape, k.output, k.size, fun i hi => k.block i (by omega) (by omega)⟩
theorem But.set (g o : Nat) (w : World) (v : Value) : But g w (w.setCell ⟨g, o, none⟩ v) := ⟨rfl, rfl, rfl, by simp [World.setCell], fun k _ hn => Below.heap_setCell _ _ _ _ hn⟩
theorem cell_heap {w w' : World} {b : Nat} (h : w'.heap[b]? = w.heap[b]?) (o : Nat) : w'.cell? ⟨b, o, none⟩ = w.cell? ⟨b, o, none⟩ := by
  unfold World.cell?
  simp only [h]
theorem frozen_heap {w w' : World} {b : Nat} (h : w'.heap[b]? = w.heap[b]?) (o : Nat) : w'.frozen? ⟨b, o, none⟩ = w.frozen? ⟨b, o, none⟩ := by
  unfold World.frozen?
  simp only [h]
theorem But.cell {g : Nat} {w w' : World} (k : But g w w') {b o : Nat} {v : Value} (hn : b ≠ g) (h : w.cell? ⟨b, o, none⟩ = some v) : w'.cell? ⟨b, o, none⟩ = some v :=
  (cell_heap (k.block b (block_lt_of_cell h) hn) o).trans h

/-- The words that are left, behind the pointer to block g; all lies below B. -/
structure IsWords (W : World) (g B : Nat) (ws : List W8) : Prop where
  ex : ∃ oa cap, W.cell? ⟨g, 0, none⟩ = some (.slice oa ws.length cap) ∧ ws.length ≤ cap ∧ cap ≤ maxLen ∧ (0 < ws.length → ∃ b off, oa = some ⟨b, off, none⟩ ∧ b ≠ g ∧ b < B ∧ ∀ i x, ws[i]? = some x → W.cell? ⟨b, off + i, none⟩ = some (.string (bs x)))
  fro : W.frozen? ⟨g, 0, none⟩ = false
  lt : g < B
  le : B ≤ W.heap.size
  small : ∀ x ∈ ws, x.length ≤ 9000
theorem IsWords.heap {W V : World} {g B : Nat} {ws : List W8} (h : IsWords W g B ws) (hs : B ≤ V.heap.size) (hb : ∀ k, k < B → V.heap[k]? = W.heap[k]?) : IsWords V g B ws := by
  obtain ⟨oa, cap, h1, h2, h3, h4⟩ := h.ex
  refine ⟨⟨oa, cap, (cell_heap (hb g h.lt) 0).trans h1, h2, h3, fun h0 => ?_⟩, (frozen_heap (hb g h.lt) 0).trans h.fro, h.lt, hs, h.small⟩
  obtain ⟨b, off, e, hn, hlt, hc⟩ := h4 h0
  exact ⟨b, off, e, hn, hlt, fun i x hi => (cell_heap (hb b hlt) _).trans (hc i x hi)⟩
theorem IsWords.on {W V : World} {g B : Nat} {ws : List W8} (h : IsWords W g B ws) (hb : Below W.heap.size W V) : IsWords V g B ws :=
  h.heap (Nat.le_trans h.le hb.size) fun k hk => hb.block k (Nat.lt_of_lt_of_le hk h.le)
theorem head_small {W : World} {g B : Nat} {ws : List W8} (h : IsWords W g B ws) : (ws.headD []).length ≤ 9000 := by
  cases ws with
  | nil => simp
  | cons x r => exact h.small x (by simp)

/-- .. the first one taken off. -/
theorem IsWords.next {w : World} {g B : Nat} {x : W8} {r : List W8} (h : IsWords w g B (x :: r)) {v : Value} (h1 : w.cell? ⟨g, 0, none⟩ = some v) {cc : Nat} (h2 : r.length ≤ cc) (h3 : cc ≤ maxLen) (oa : Option Addr)
    (h4 : 0 < r.length → ∃ b off, oa = some ⟨b, off, none⟩ ∧ b ≠ g ∧ b < B ∧ ∀ i x, r[i]? = some x → w.cell? ⟨b, off + i, none⟩ = some (.string (bs x))) : IsWords (w.setCell ⟨g, 0, none⟩ (.slice oa r.length cc)) g B r := by
  refine ⟨⟨oa, cc, World.cell?_setCell_same _ _ _ h1, h2, h3, fun h0 => ?_⟩, ?_, h.lt, Nat.le_trans h.le (But.set g 0 w _).size, fun y hy => h.small y (by simp [hy])⟩
  · obtain ⟨b, off, e, hn, hlt, hc⟩ := h4 h0
    exact ⟨b, off, e, hn, hlt, fun i x hi => (But.set g 0 w _).cell hn (hc i x hi)⟩
  · rw [World.frozen?_setCell]
    exact h.fro
/-! Numbers. -/
end Go.Proofs.Ytphkhfeofoadcab

/- Names and signs found; a text cloned. -/
namespace Go.Proofs.Ytphkhfeofoadcab
open Go.RowKit Go.Sort

theorem find_none {l : List W8} {x : W8} (h : ∀ i, i < l.length → l.getD i [] ≠ x) : l.findIdx? (· == x) = none := by
  rw [List.findIdx?_eq_none_iff]
  intro y hy
  obtain ⟨i, hi, rfl⟩ := List.mem_iff_getElem.1 hy
  have := h i hi
  rw [List.getD_eq_getElem?_getD, List.getElem?_eq_getElem hi, Option.getD_some] at this
  simpa using this
theorem find_at {l : List W8} {x : W8} {i : Nat} (hi : i < l.length) (h : l.getD i [] = x) (hj : ∀ j, j < i → l.getD j [] ≠ x) : l.findIdx? (· == x) = some i := by
  rw [List.findIdx?_eq_some_iff_getElem]
  rw [List.getD_eq_getElem?_getD, List.getElem?_eq_getElem hi, Option.getD_some] at h
  refine ⟨hi, by simpa using h, fun j hji => ?_⟩
  have := hj j hji
  rw [List.getD_eq_getElem?_getD, List.getElem?_eq_getElem (by omega), Option.getD_some] at this
  simpa using this
theorem bs_toList (l : W8) : (bs l).toList = l := by rw [Lib.toList_data, bs_data]

theorem forms_name (i : Nat) (h : i ≤ 8) : formsArr[i * 5]? = some (.string (bs (nameW.getD i []))) := by
  rcases nine h with rfl | rfl | rfl | rfl | rfl | rfl | rfl | rfl | rfl <;> rfl
end Go.Proofs.Ytphkhfeofoadcab

/- readAction. -/
namespace Go.Proofs.Ytphkhfeofoadcab
open Go.RowKit Go.Sort

theorem row_heap (X : World) (r k : Nat) (cs : Array Value) (h : k ≠ r) : (X.setRow r cs).heap[k]? = X.heap[k]? := setRow_other _ _ _ _ h
theorem row_size (X : World) (r : Nat) (cs : Array Value) : (X.setRow r cs).heap.size = X.heap.size := by simp [World.setRow]
/-- Another row written, one of the call's own. -/
theorem But.row {g r : Nat} {w X : World} (h : But g w X) (hr : w.heap.size ≤ r) (cs : Array Value) : But g w (X.setRow r cs) :=
  ⟨h.os, h.tape, h.output, by rw [row_size]; exact h.size, fun k hk hn => (row_heap X r k cs (by omega)).trans (h.block k hk hn)⟩
theorem IsWords.row {X : World} {g B r : Nat} {ws : List W8} (h : IsWords X g B ws) (hr : B ≤ r) (cs : Array Value) : IsWords (X.setRow r cs) g B ws :=
  h.heap (by rw [row_size]; exact h.le) fun k hk => row_heap X r k cs (by omega)
theorem size_action : (Try.prog.info? 25).map (·.size) = some 2 := by kernel_rfl

theorem one2 (a b : Int) : (#[.int .i64 a, .int .i64 b] : Array Value).all (·.oneCell') = true := by simp [Value.oneCell']
theorem beq_no {q x : W8} (h : q ≠ x) : (q == x) = false := by simpa using h

end Go.Proofs.Ytphkhfeofoadcab

/- readCond. -/
namespace Go.Proofs.Ytphkhfeofoadcab
open Go.RowKit Go.Sort

def condC (c : CD) : Array Value := #[.int .i64 c.arg, .int .i64 c.op, .int .u64 c.v, .int .u64 c.m, .string c.glob, .int .u32 c.net.ip, .int .i64 c.net.bits, .int .i64 c.net.lo, .int .i64 c.net.hi]
def zeroCD : CD := ⟨0, 0, 0, 0, ⟨#[]⟩, noNet⟩
theorem size_cond : (Try.prog.info? 62).map (·.size) = some 9 := by kernel_rfl
theorem condC_one (c : CD) : (condC c).all (·.oneCell') = true := by simp [condC, Value.oneCell']
theorem calls_forget {P : Program} {f : FuncId} {args : Array Value} {Q : Ending → World → Prop} {W0 : World} (F : World → Prop) (h : F W0) (H : ∀ W, F W → Calls P f args W Q) : Calls P f args W0 Q := H _ h
theorem trim_below {w w' : World} (h : w' = w ∨ w' = w.drew) : Below w.heap.size w w' := by
  rcases h with rfl | rfl
  · exact Below.refl _ _
  · exact (Below.refl _ _).drew
theorem parseV_net (x : W8) : ∃ (ip : Nat) (b lo hi : Int) (er : Value), parseV (parseR x) = .tuple #[netV ip b lo hi, er] ∧ netRead x = ⟨ip, b, lo, hi⟩ := by
  unfold netRead
  cases h : parseR x with
  | none => exact ⟨0, 0, 0, 0, _, rfl, rfl⟩
  | some p =>
    obtain ⟨ip, b, lo, hi⟩ := p
    exact ⟨ip, b, lo, hi, _, rfl, rfl⟩
theorem trimQ_size {x : W8} (h : x.length ≤ 9000) : (⟨(trimQ x).toArray⟩ : ByteArray).size ≤ 9000 := by
  have h1 : (trimQ x).length ≤ x.length := by
    unfold trimQ Lib.trimB Lib.trimLeftB Lib.trimRightB
    have e1 := (List.dropWhile_sublist (p := (· == (34 : UInt8))) (l := (List.dropWhile (· == (34 : UInt8)) x.reverse).reverse)).length_le
    have e2 := (List.dropWhile_sublist (p := (· == (34 : UInt8))) (l := x.reverse)).length_le
    simp only [List.length_reverse] at e1 e2
    omega
  simp only [ByteArray.size, List.size_toArray]
  omega

end Go.Proofs.Ytphkhfeofoadcab

/- strings.Split at one byte. -/
namespace Go.Proofs.Ytphkhfeofoadcab
open Go.RowKit Go.Sort

theorem indexByte_no (c : UInt8) : ∀ l : W8, c ∉ l → Lib.indexByte l c = -1
  | l, h => by
    cases hi : Lib.indexByte l c with
    | ofNat i =>
      have := (indexByte_split l c i hi)
      exact absurd (by rw [this.2]; simp) h
    | negSucc i =>
      have := Lib.index_ge l [c]
      rw [Lib.index_one, hi] at this
      omega
theorem splitK_C (c : UInt8) : ∀ (k : Nat) (l : W8), l.count c ≤ k → Lib.splitK [c] 0 k l = splitC c l
  | 0, l, h => by
    rw [splitC_self c l (List.count_eq_zero.1 (by omega))]
    rfl
  | k + 1, l, h => by
    by_cases hm : c ∈ l
    · obtain ⟨a, b, rfl, ha⟩ := List.eq_append_cons_of_mem hm
      have hix : Lib.index (a ++ c :: b) [c] = a.length := by rw [Lib.index_one, indexByte_app c b a ha]
      rw [Lib.splitK, hix, if_neg (by simp), splitC_app c b a ha]
      have e1 : (a ++ c :: b).take ((a.length : Int).toNat + 0) = a := by simp
      have e2 : (a ++ c :: b).drop ((a.length : Int).toNat + [c].length) = b := by simp [List.drop_append]
      rw [e1, e2, splitK_C c k b (by
        rw [List.count_append, List.count_cons_self] at h
        omega)]
    · have hix : Lib.index l [c] = -1 := by rw [Lib.index_one, indexByte_no c l hm]
      rw [Lib.splitK, hix, if_pos (by rfl), splitC_self c l hm]
theorem splitB_C (s : ByteArray) (c : UInt8) : (Lib.splitB ⟨#[c]⟩ 0 (Lib.countB s ⟨#[c]⟩) s) = (splitC c s.data.toList).map bs := by
  have h := Lib.splitB_data ⟨#[c]⟩ 0 (Lib.countB s ⟨#[c]⟩) s
  rw [show (⟨#[c]⟩ : ByteArray).data.toList = [c] from rfl, splitK_C c _ _ (by
    show s.data.toList.count c ≤ Lib.count s.data.toList [c]
    rw [Lib.count_one]
    exact Nat.le_refl _)] at h
  rw [← h, List.map_map]
  conv => lhs; rw [← List.map_id (Lib.splitB ⟨#[c]⟩ 0 (Lib.countB s ⟨#[c]⟩) s)]
  exact List.map_congr_left fun x _ => (bs_of x).symm
/-- The strings' cells. -/
def strsC (ws : List W8) : Array Value := (ws.map fun x => Value.string (bs x)).toArray
theorem split_small {c : UInt8} {l : W8} {n : Nat} (h : l.length ≤ n) : ∀ x ∈ splitC c l, x.length ≤ n := by
  have key : ∀ l : W8, ∀ x ∈ splitC c l, x.length ≤ l.length := by
    intro l
    induction l with
    | nil => intro x hx; simp [splitC] at hx; simp [hx]
    | cons y r ih =>
      intro x hx
      unfold splitC at hx
      split at hx
      · rcases List.mem_cons.1 hx with rfl | hx
        · simp
        · have := ih x hx; simp; omega
      · split at hx
        · rw [List.mem_singleton] at hx; subst hx; simp
        · rename_i p t he
          rcases List.mem_cons.1 hx with rfl | hx
          · have := ih p (by rw [he]; simp); simp; omega
          · have := ih x (by rw [he]; simp [hx]); simp; omega
  intro x hx
  exact Nat.le_trans (key l x hx) h
theorem split_len {c : UInt8} : ∀ l : W8, (splitC c l).length ≤ l.length + 1
  | [] => by simp [splitC]
  | y :: r => by
    have ih := split_len (c := c) r
    unfold splitC
    split
    · simp; omega
    · split
      · simp
      · rename_i p t he
        rw [he] at ih
        simp at ih ⊢
        omega
end Go.Proofs.Ytphkhfeofoadcab

/- readRule. -/
namespace Go.Proofs.Ytphkhfeofoadcab
open Go.RowKit Go.Sort

theorem numU_lt (x : W8) : numU x < 18446744073709551616 := by
  have key : ∀ (l : W8) (acc u : Nat), acc < 18446744073709551616 → Lib.parseUintM (2 ^ 64 - 1) acc l = .ok u → u < 18446744073709551616 := by
    intro l
    induction l with
    | nil =>
      intro acc u h1 h2
      simp only [Lib.parseUintM, Lib.NumEnd.ok.injEq] at h2
      omega
    | cons c r ih =>
      intro acc u h1 h2
      rw [Lib.parseUintM] at h2
      split at h2
      · split at h2
        · cases h2
        · split at h2
          · cases h2
          · exact ih _ u (by omega) h2
      · cases h2
  unfold numU
  cases h : Lib.parseUintB 64 x with
  | ok u =>
    unfold Lib.parseUintB at h
    split at h
    · cases h
    · exact key x 0 u (by omega) h
  | «syntax» => simp
  | range => simp
theorem toI_ok (n : Nat) : I64 (toI n) := by
  unfold I64 toI
  rw [IntKind.wrap_i64]
  omega
theorem findOp_le (x : W8) : findOp x ≤ 9 := by
  unfold findOp
  cases h : signW.findIdx? (· == x) with
  | none => simp
  | some i =>
    have := (find_some h).2
    simp [signW] at this ⊢
    omega
theorem netRead_ok (x : W8) : NtOk (netRead x) := by
  unfold netRead
  cases h : parseR x with
  | none => exact noNet_ok
  | some p =>
    obtain ⟨ip, b, lo, hi⟩ := p
    obtain ⟨hip, hf, _⟩ := parse_some h
    have hk := fault_ok hf
    exact ⟨hip, i64_nat (by omega), i64_nat (by omega), i64_nat (by omega)⟩
theorem readCond_ok (ws : List W8) : CdOk (readCond ws).1 := by
  have ho := findOp_le (ws.tail.headD [])
  unfold readCond
  simp only
  split
  · exact ⟨toI_ok _, i64_nat (by omega), by simp, by simp, noNet_ok⟩
  · split
    · exact ⟨toI_ok _, i64_nat (by omega), by simp, by simp, netRead_ok _⟩
    · split
      · exact ⟨toI_ok _, i64_nat (by omega), numU_lt _, numU_lt _, noNet_ok⟩
      · exact ⟨toI_ok _, i64_nat (by omega), numU_lt _, by simp, noNet_ok⟩
theorem readAct_ok (ws : List W8) : AcOk (readAct ws).1 := by
  unfold readAct
  split
  · exact ⟨i64_nat (k := 1) (by omega), i64_nat (k := 0) (by omega)⟩
  · split
    · exact ⟨i64_nat (k := 3) (by omega), i64_nat (k := 0) (by omega)⟩
    · split
      · exact ⟨i64_nat (k := 2) (by omega), toI_ok _⟩
      · exact ⟨i64_nat (k := 0) (by omega), i64_nat (k := 0) (by omega)⟩
theorem findCall_ok (x : W8) : I64 (findCall x) := by
  by_cases h : findCall x < 0
  · unfold findCall at h ⊢
    cases hf : nameW.findIdx? (· == x) with
    | none => unfold I64; simp
    | some i => rw [hf] at h; simp at h; omega
  · exact i64_small (by omega) (by have := (call_some h).2; omega)

/-- The cells of conds. -/
def flatC (cs : List CD) : List Value := cs.flatMap fun c => (condC c).toList
theorem flatC_len : ∀ cs : List CD, (flatC cs).length = cs.length * 9
  | [] => rfl
  | c :: r => by
    have := flatC_len r
    simp only [flatC, List.flatMap_cons, List.length_append, List.length_cons] at this ⊢
    rw [this, show (condC c).toList.length = 9 from rfl]
    omega
theorem flatC_snoc (cs : List CD) (c : CD) : flatC (cs ++ [c]) = flatC cs ++ (condC c).toList := by simp [flatC]
theorem flatC_get : ∀ (cs : List CD) (i : Nat) (c : CD) (j : Nat), cs[i]? = some c → j < 9 → (flatC cs)[i * 9 + j]? = (condC c).toList[j]?
  | [], i, c, j, h, _ => by simp at h
  | x :: r, 0, c, j, h, hj => by
    simp only [List.getElem?_cons_zero, Option.some.injEq] at h
    subst h
    simp only [flatC, List.flatMap_cons]
    rw [List.getElem?_append_left (by rw [show (condC x).toList.length = 9 from rfl]; omega)]
    congr 1
    omega
  | x :: r, i + 1, c, j, h, hj => by
    rw [List.getElem?_cons_succ] at h
    have ih := flatC_get r i c j h hj
    simp only [flatC, List.flatMap_cons] at ih ⊢
    rw [List.getElem?_append_right (by rw [show (condC x).toList.length = 9 from rfl]; omega), show (condC x).toList.length = 9 from rfl, show (i + 1) * 9 + j - 9 = i * 9 + j by omega]
    exact ih
theorem conds_owned {W : World} {base : Nat} {v : Value} {cs : List CD} (h : W.ownsRow base 62 9 v cs.length (flatC cs)) (hok : ∀ c ∈ cs, CdOk c) : ∃ oa cap, v = .slice oa cs.length cap ∧ cs.length ≤ cap ∧ cap ≤ maxLen ∧ IsConds oa cs W ∧ ∀ b off, oa = some ⟨b, off, none⟩ → base ≤ b ∧ b < W.heap.size := by
  have h' := h
  rcases h.2 with ⟨rfl, hn⟩ | ⟨g, cap, cur, rfl, hb, hg, h1, h2, h3, h4⟩
  · refine ⟨none, 0, by rw [hn], by omega, by unfold maxLen; omega, ⟨fun h0 => by omega⟩, fun b off e => by cases e⟩
  · refine ⟨_, cap, rfl, h1, h2, ⟨fun h0 => ⟨g, 0, rfl, (h'.lt g rfl).2, fun i c hc => ?_⟩⟩, fun b off e => by
      simp only [Option.some.injEq, Addr.mk.injEq] at e
      have := (h'.lt g rfl).2
      omega⟩
    have hcell : ∀ j u, j < 9 → (condC c).toList[j]? = some u → W.cell? ⟨g, 0 + i * 9 + j, none⟩ = some u := fun j u hj hu => by
      have h5 := h'.cells (g := g) rfl (i * 9 + j) u (by rw [flatC_get cs i c j hc hj]; exact hu)
      rwa [show (⟨g, 0, none⟩ : Addr).add (i * 9 + j) = ⟨g, 0 + i * 9 + j, none⟩ by unfold Addr.add; split <;> simp_all] at h5
    exact ⟨hcell 0 _ (by omega) rfl, hcell 1 _ (by omega) rfl, hcell 2 _ (by omega) rfl, hcell 3 _ (by omega) rfl, hcell 4 _ (by omega) rfl, hcell 5 _ (by omega) rfl, hcell 6 _ (by omega) rfl, hcell 7 _ (by omega) rfl, hcell 8 _ (by omega) rfl, hok c (List.mem_of_getElem? hc)⟩
theorem info_cond : ∃ i, Try.prog.info? 62 = some i ∧ i.zero = some (.agg (condC zeroCD)) ∧ i.size = 9 ∧ i.bytes = 80 := by
  have hz : (Try.prog.info? 62).map (·.zero) = some (some (.agg (condC zeroCD))) := by kernel_rfl
  have hs : (Try.prog.info? 62).map (·.size) = some 9 := by kernel_rfl
  have hb : (Try.prog.info? 62).map (·.bytes) = some 80 := by kernel_rfl
  cases hq : Try.prog.info? 62 with
  | none => rw [hq] at hs; simp at hs
  | some i =>
    rw [hq] at hz hs hb
    simp at hz hs hb
    exact ⟨i, rfl, hz, hs, hb⟩
theorem size_rule : (Try.prog.info? 58).map (·.size) = some 4 := by kernel_rfl

def ruleC (nr : Int) (sv : Value) (a : ACT) : Array Value := #[.int .i64 nr, sv, .int .i64 a.kind, .int .i64 a.errno]
theorem But.grown {g : Nat} {w w' : World} (h : But g w w') : w.grownBy w' (some g) := ⟨h.os, h.tape, h.output, h.size, fun k hk hn => h.block k hk (fun e => hn (by rw [e]))⟩
end Go.Proofs.Ytphkhfeofoadcab

/- readRule: the walk. -/
namespace Go.Proofs.Ytphkhfeofoadcab
open Go.RowKit Go.Sort

/-- Where the words' slice lies. -/
theorem words_len {X : World} {g B : Nat} {ws : List W8} (h : IsWords X g B ws) : ∃ oa cap, X.cell? ⟨g, 0, none⟩ = some (.slice oa ws.length cap) ∧ ws.length ≤ 9223372036854775807 := by
  obtain ⟨oa, cap, h1, h2, h3, _⟩ := h.ex
  unfold maxLen at h3
  exact ⟨oa, cap, h1, by omega⟩
theorem readConds_fuel : ∀ (n m : Nat) (l : List W8), l.length ≤ n → l.length ≤ m → readConds n l = readConds m l
  | 0, m, l, hn, _ => by
    rw [List.length_eq_zero_iff.1 (show l.length = 0 by omega)]
    cases m <;> simp [readConds]
  | n + 1, 0, l, _, hm => by
    rw [List.length_eq_zero_iff.1 (show l.length = 0 by omega)]
    simp [readConds]
  | n + 1, m + 1, l, hn, hm => by
    rw [readConds, readConds]
    by_cases h : l = []
    · rw [if_pos h, if_pos h]
    · have hp := List.length_pos_iff.2 h
      have hl := readCond_le l.tail
      rw [List.length_tail] at hl
      rw [if_neg h, if_neg h, readConds_fuel n m _ (by omega) (by omega)]
theorem readConds_step {l : List W8} (h : l ≠ []) : readConds l.length l = (readCond l.tail).1 :: readConds (readCond l.tail).2.length (readCond l.tail).2 := by
  have hp := List.length_pos_iff.2 h
  have hl := readCond_le l.tail
  rw [List.length_tail] at hl
  obtain ⟨n, hn⟩ : ∃ n, l.length = n + 1 := ⟨l.length - 1, by omega⟩
  rw [hn, readConds, if_neg h, readConds_fuel n _ _ (by omega) (Nat.le_refl _)]
theorem readAct_le (l : List W8) : (readAct l).2.length ≤ l.length := by
  unfold readAct
  split
  · simp
  · split
    · simp
    · split
      · simp; omega
      · simp
/-- How many words are left. -/
def lenAt (g : Nat) (w : World) : Nat := match w.cell? ⟨g, 0, none⟩ with
  | some (.slice _ n _) => n
  | _ => 0
theorem lenAt_words {X : World} {g B : Nat} {ws : List W8} (h : IsWords X g B ws) : lenAt g X = ws.length := by
  obtain ⟨oa, cap, h1, _⟩ := h.ex
  unfold lenAt
  rw [h1]

end Go.Proofs.Ytphkhfeofoadcab

/- read: the laws. -/
namespace Go.Proofs.Ytphkhfeofoadcab
open Go.RowKit Go.Sort

theorem readConds_ok : ∀ (n : Nat) (l : List W8), ∀ c ∈ readConds n l, CdOk c
  | 0, _, c, h => by cases h
  | n + 1, l, c, h => by
    rw [readConds] at h
    split at h
    · cases h
    · rcases List.mem_cons.1 h with rfl | h
      · exact readCond_ok _
      · exact readConds_ok n _ c h
theorem readRule_ok (line : W8) : RlOk (readRule line) := ⟨findCall_ok _, readConds_ok _ _, readAct_ok _⟩
theorem readP_ok (s : W8) : PlOk (readP s) := ⟨fun r hr => by
  unfold readP at hr
  obtain ⟨l, _, rfl⟩ := List.mem_map.1 hr
  exact readRule_ok l, readAct_ok _⟩

/-- A rule that was read, and where its conds lie. -/
abbrev RE := RL × Option Addr × Nat
def ruleE (e : RE) : Array Value := ruleC e.1.nr (.slice e.2.1 e.1.conds.length e.2.2) e.1.act
def flatR (es : List RE) : List Value := es.flatMap fun e => (ruleE e).toList
theorem flatR_snoc (es : List RE) (e : RE) : flatR (es ++ [e]) = flatR es ++ (ruleE e).toList := by simp [flatR]
theorem flatR_get : ∀ (es : List RE) (i : Nat) (e : RE) (j : Nat), es[i]? = some e → j < 4 → (flatR es)[i * 4 + j]? = (ruleE e).toList[j]?
  | [], i, e, j, h, _ => by simp at h
  | x :: r, 0, e, j, h, hj => by
    simp only [List.getElem?_cons_zero, Option.some.injEq] at h
    subst h
    simp only [flatR, List.flatMap_cons]
    rw [List.getElem?_append_left (by rw [show (ruleE x).toList.length = 4 from rfl]; omega)]
    congr 1
    omega
  | x :: r, i + 1, e, j, h, hj => by
    rw [List.getElem?_cons_succ] at h
    have ih := flatR_get r i e j h hj
    simp only [flatR, List.flatMap_cons] at ih ⊢
    rw [List.getElem?_append_right (by rw [show (ruleE x).toList.length = 4 from rfl]; omega), show (ruleE x).toList.length = 4 from rfl, show (i + 1) * 4 + j - 4 = i * 4 + j by omega]
    exact ih
theorem IsConds.heap {oa : Option Addr} {cs : List CD} {W V : World} (h : IsConds oa cs W) (hb : ∀ b off, oa = some ⟨b, off, none⟩ → b < W.heap.size → V.heap[b]? = W.heap[b]?) (hs : W.heap.size ≤ V.heap.size) : IsConds oa cs V :=
  ⟨fun h0 => by
    obtain ⟨b, off, h1, h2, h3⟩ := h.lie h0
    exact ⟨b, off, h1, Nat.lt_of_lt_of_le h2 hs, fun i c hi => (h3 i c hi).on fun j => cell_heap (hb b off h1 h2) j⟩⟩
/-- The conds of the rules lie where nothing is written any more. -/
def CondsOk (r5 : Nat) (sv : Value) (es : List RE) (X : World) : Prop := ∀ e ∈ es, RlOk e.1 ∧ IsConds e.2.1 e.1.conds X ∧ e.1.conds.length ≤ e.2.2 ∧ e.2.2 ≤ maxLen ∧ ∀ b off, e.2.1 = some ⟨b, off, none⟩ → r5 < b ∧ sv.ownBlock ≠ some b ∧ b < X.heap.size
theorem rules_owned {W : World} {base r5 : Nat} {v : Value} {es : List RE} (h : W.ownsRow base 58 4 v es.length (flatR es)) (hc : CondsOk r5 v es W) : ∃ oa cap, v = .slice oa es.length cap ∧ es.length ≤ cap ∧ cap ≤ maxLen ∧ IsRules oa (es.map (·.1)) W := by
  have h' := h
  rcases h.2 with ⟨rfl, hn⟩ | ⟨g, cap, cur, rfl, hb, hg, h1, h2, h3, h4⟩
  · exact ⟨none, 0, by rw [hn], by omega, by unfold maxLen; omega, ⟨fun h0 => by rw [List.length_map] at h0; omega⟩⟩
  · refine ⟨_, cap, rfl, h1, h2, ⟨fun h0 => ⟨g, 0, rfl, (h'.lt g rfl).2, fun i r hr => ?_⟩⟩⟩
    rw [List.getElem?_map] at hr
    cases he : es[i]? with
    | none => rw [he] at hr; cases hr
    | some e =>
      rw [he] at hr
      simp only [Option.map_some, Option.some.injEq] at hr
      subst hr
      have hcell : ∀ j u, j < 4 → (ruleE e).toList[j]? = some u → W.cell? ⟨g, 0 + i * 4 + j, none⟩ = some u := fun j u hj hu => by
        have h5 := h'.cells (g := g) rfl (i * 4 + j) u (by rw [flatR_get es i e j he hj]; exact hu)
        rwa [show (⟨g, 0, none⟩ : Addr).add (i * 4 + j) = ⟨g, 0 + i * 4 + j, none⟩ by unfold Addr.add; split <;> simp_all] at h5
      obtain ⟨q1, q2, q3, q4, _⟩ := hc e (List.mem_of_getElem? he)
      exact ⟨e.2.1, e.2.2, hcell 0 _ (by omega) rfl, hcell 1 _ (by omega) rfl, hcell 2 _ (by omega) rfl, hcell 3 _ (by omega) rfl, q2, q3, q4, q1⟩
theorem info_rule : ∃ i, Try.prog.info? 58 = some i ∧ i.zero = some (.agg (ruleC 0 (.slice none 0 0) ⟨0, 0⟩)) ∧ i.size = 4 ∧ i.bytes = 48 := by
  have hz : (Try.prog.info? 58).map (·.zero) = some (some (.agg (ruleC 0 (.slice none 0 0) ⟨0, 0⟩))) := by kernel_rfl
  have hs : (Try.prog.info? 58).map (·.size) = some 4 := by kernel_rfl
  have hb : (Try.prog.info? 58).map (·.bytes) = some 48 := by kernel_rfl
  cases hq : Try.prog.info? 58 with
  | none => rw [hq] at hs; simp at hs
  | some i =>
    rw [hq] at hz hs hb
    simp at hz hs hb
    exact ⟨i, rfl, hz, hs, hb⟩
theorem size_pol : (Try.prog.info? 27).map (·.size) = some 3 := by kernel_rfl

def polC (sv : Value) (a : ACT) : Array Value := #[sv, .int .i64 a.kind, .int .i64 a.errno]
/-- One rule more. -/
theorem condsOk_more {r5 : Nat} {sv : Value} {es : List RE} {X0 X1 Y : World} {e : RE} {o : Obj} {gg n cap : Nat} (h : CondsOk r5 sv es X0) (hb : Below X0.heap.size X0 X1) (he : RlOk e.1 ∧ IsConds e.2.1 e.1.conds X1 ∧ e.1.conds.length ≤ e.2.2 ∧ e.2.2 ≤ maxLen ∧ ∀ b off, e.2.1 = some ⟨b, off, none⟩ → X0.heap.size ≤ b ∧ b < X1.heap.size) (h5 : r5 < X0.heap.size)
    (hown : ∀ k, sv.ownBlock = some k → k < X0.heap.size) (hgrow : (X1.alloc o).grownBy Y sv.ownBlock) (hat : sv.ownBlock = some gg ∨ gg = X1.heap.size + 1) (V : World) (hV : ∀ k, k ≠ r5 → V.heap[k]? = Y.heap[k]?) (hVs : Y.heap.size ≤ V.heap.size) :
    CondsOk r5 (.slice (some ⟨gg, 0, none⟩) n cap) (es ++ [e]) V := by
  have hs1 := hb.size
  have hsY : X1.heap.size ≤ Y.heap.size := Nat.le_trans (box_below X1 o).size hgrow.size
  have hgg : ∀ b, b < X1.heap.size → sv.ownBlock ≠ some b → (Value.slice (some ⟨gg, 0, none⟩) n cap).ownBlock ≠ some b := fun b hb1 hb2 hc => by
    simp only [Value.ownBlock, Option.some.injEq] at hc
    subst hc
    rcases hat with h | h
    · exact hb2 h
    · omega
  intro x hx
  rcases List.mem_append.1 hx with hx | hx
  · obtain ⟨q1, q2, q3, q4, q5⟩ := h x hx
    refine ⟨q1, q2.heap (fun b off e0 hlt0 => ?_) (by omega), q3, q4, fun b off e0 => ?_⟩
    · obtain ⟨p1, p2, _⟩ := q5 b off e0
      rw [hV b (by omega), hgrow.block b (by rw [World.size_alloc]; omega) (fun e1 => p2 e1.symm), (box_below X1 o).block b (by omega), hb.block b hlt0]
    · obtain ⟨p1, p2, p3⟩ := q5 b off e0
      exact ⟨p1, hgg b (by omega) p2, by omega⟩
  · rw [List.mem_singleton] at hx
    subst hx
    obtain ⟨q1, q2, q3, q4, q5⟩ := he
    refine ⟨q1, q2.heap (fun b off e0 hlt0 => ?_) (by omega), q3, q4, fun b off e0 => ?_⟩
    · have p1 := q5 b off e0
      rw [hV b (by omega), hgrow.block b (by rw [World.size_alloc]; omega) (fun e1 => by have := hown b e1.symm; omega), (box_below X1 o).block b hlt0]
    · have p1 := q5 b off e0
      exact ⟨by omega, hgg b p1.2 (fun e1 => by have := hown b e1; omega), by omega⟩
end Go.Proofs.Ytphkhfeofoadcab

/- read: the walk. -/
namespace Go.Proofs.Ytphkhfeofoadcab
open Go.RowKit Go.Sort

theorem CondsOk.heap {r5 : Nat} {sv : Value} {es : List RE} {X Y : World} (h : CondsOk r5 sv es X) (hb : Below X.heap.size X Y) : CondsOk r5 sv es Y := fun e he => by
  obtain ⟨q1, q2, q3, q4, q5⟩ := h e he
  refine ⟨q1, q2.on hb, q3, q4, fun b off e0 => ?_⟩
  obtain ⟨p1, p2, p3⟩ := q5 b off e0
  exact ⟨p1, p2, Nat.lt_of_lt_of_le p3 hb.size⟩
theorem own_on {W V : World} {base size n : Nat} {e : TypeId} {v : Value} {xs : List Value} (h : W.ownsRow base e size v n xs) (hb : Below W.heap.size W V) : V.ownsRow base e size v n xs :=
  h.kept (row := none) ⟨hb.os, hb.tape, hb.output, hb.size, fun k hk _ => hb.block k hk⟩ (by
    cases hv : v.ownBlock with
    | none => exact .inl rfl
    | some k => exact .inr (by simp))
theorem own_but {W V : World} {base size n r : Nat} {e : TypeId} {v : Value} {xs : List Value} (h : W.ownsRow base e size v n xs) (hb : But r W V) (hr : r < base) : V.ownsRow base e size v n xs :=
  h.kept hb.grown (by
    by_cases he : v.ownBlock = some r
    · have := (h.lt _ he).1
      omega
    · exact .inr he)
theorem trimN_len (s : W8) : (trimN s).length ≤ s.length := by
  unfold trimN Lib.trimSuffix
  split
  · simp
  · exact Nat.le_refl _

end Go.Proofs.Ytphkhfeofoadcab

/- policy.Parse. -/
namespace Go.Proofs.Ytphkhfeofoadcab
open Go.RowKit Go.Sort

def zeroPol : POL := ⟨[], ⟨0, 0⟩⟩
/-- What Parse gives: a policy, and the error's number. -/
def parseP (s : W8) : POL × Nat := if 8000 < s.length then (zeroPol, 2) else match docP s with
  | some p => (p, 0)
  | none => (zeroPol, 4)
theorem zeroPol_is (W : World) : IsPol none 0 zeroPol W := ⟨IsRules.nil _ _, Nat.le_refl _, by unfold maxLen; omega, ⟨fun r hr => (by cases hr), ⟨i64_nat (k := 0) (by omega), i64_nat (k := 0) (by omega)⟩⟩⟩
theorem results_pol {fn : Func} {p u : Tmp} (h : fn.results = #[.cell p 27, .tmp u]) (tmps : Array Value) (w : World) (g : Nat) (cs : Array Value) (v : Value) (hs : cs.size = 3)
    (hp : tmps.getD p undef = .pointer (some ⟨g, 0, none⟩)) (hv : tmps.getD u undef = v) (hg : w.heap[g]? = some (.cells cs 27 (0, 0))) :
    (results fn tmps).run Try.prog w = .ok (.tuple #[.agg cs, v]) w := by
  rw [results_cell_tmp h, hp, hv]
  have hl := run_loadVar_row (P := Try.prog) w g 27 27 cs (0, 0) _ hg Try.underlying27 rfl (by rw [hs]; exact size_pol)
  simp [asAddr, hl]
/-- What lies in the row of a result that is still nought. -/
theorem nought_row {Z : World} {r j : Nat} {v : Value} (h : Z.heap[r]? = some (.cells #[.slice none 0 0, .int .i64 0, .int .i64 0] 27 (0, 0))) (hc : Z.cell? ⟨r, j, none⟩ = some v) : (j = 0 ∧ v = .slice none 0 0) ∨ v = .int .i64 0 := by
  rw [cell_of_row _ _ j _ _ _ h] at hc
  match j, hc with
  | 0, hc => left; simp at hc; exact ⟨rfl, hc.symm⟩
  | 1, hc => right; simp at hc; exact hc.symm
  | 2, hc => right; simp at hc; exact hc.symm
  | j + 3, hc => simp at hc
theorem IsConds.apart {oa : Option Addr} {cs : List CD} {Z : World} {r : Nat} (h : IsConds oa cs Z) (hr : Z.heap[r]? = some (.cells #[.slice none 0 0, .int .i64 0, .int .i64 0] 27 (0, 0))) (c : Array Value) : IsConds oa cs (Z.setRow r c) :=
  ⟨fun h0 => by
    obtain ⟨b, off, h1, h2, h3⟩ := h.lie h0
    have hne : b ≠ r := fun e => by
      subst e
      obtain ⟨y, hy⟩ : ∃ y, cs[0]? = some y := ⟨_, List.getElem?_eq_getElem h0⟩
      rcases nought_row hr (h3 0 y hy).k2 with ⟨_, h5⟩ | h5
      · cases h5
      · cases h5
    exact ⟨b, off, h1, by rw [row_size]; exact h2, fun i x hi => (h3 i x hi).on fun j => cell_heap (row_heap Z r b c hne) j⟩⟩
theorem IsPol.apart {oa : Option Addr} {cap : Nat} {p : POL} {Z : World} {r : Nat} (h : IsPol oa cap p Z) (hr : Z.heap[r]? = some (.cells #[.slice none 0 0, .int .i64 0, .int .i64 0] 27 (0, 0))) (c : Array Value) : IsPol oa cap p (Z.setRow r c) :=
  ⟨⟨fun h0 => by
    obtain ⟨b, off, h1, h2, h3⟩ := h.rules.lie h0
    have hne : b ≠ r := fun e => by
      subst e
      obtain ⟨y, hy⟩ : ∃ y, p.rules[0]? = some y := ⟨_, List.getElem?_eq_getElem h0⟩
      obtain ⟨ca, cc, h4⟩ := h3 0 y hy
      rcases nought_row hr h4.k1 with ⟨h5, _⟩ | h5
      · omega
      · cases h5
    refine ⟨b, off, h1, by rw [row_size]; exact h2, fun i x hi => ?_⟩
    obtain ⟨ca, cc, h4⟩ := h3 i x hi
    have hc := fun j => cell_heap (row_heap Z r b c hne) j
    exact ⟨ca, cc, (hc _).trans h4.k0, (hc _).trans h4.k1, (hc _).trans h4.k2, (hc _).trans h4.k3, h4.conds.apart hr c, h4.le, h4.cap, h4.ok⟩⟩, h.le, h.cap, h.ok⟩
theorem polC_one (oa : Option Addr) (n cap : Nat) (k e : Int) : (#[.slice oa n cap, .int .i64 k, .int .i64 e] : Array Value).all (·.oneCell') = true := by simp [Value.oneCell']

end Go.Proofs.Ytphkhfeofoadcab

/- Calls and values; what a rule asks of them. -/
namespace Go.Proofs.Ytphkhfeofoadcab
open Go.RowKit Go.Sort

/-- A call. -/
structure KL where
  arch : Nat
  nr : Nat
  a0 : Nat
  a1 : Nat
  a2 : Nat
  a3 : Nat
structure KlOk (c : KL) : Prop where
  arch : c.arch < 4294967296
  nr : c.nr < 4294967296
  a0 : c.a0 < 18446744073709551616
  a1 : c.a1 < 18446744073709551616
  a2 : c.a2 < 18446744073709551616
  a3 : c.a3 < 18446744073709551616
def klC (c : KL) : Array Value := #[.int .u32 c.arch, .int .u32 c.nr, .int .u64 c.a0, .int .u64 c.a1, .int .u64 c.a2, .int .u64 c.a3]
def klV (c : KL) : Value := .agg (klC c)
def regN (c : KL) : Nat → Nat
  | 0 => c.a0
  | 1 => c.a1
  | 2 => c.a2
  | 3 => c.a3
  | _ => 0
theorem regN_lt {c : KL} (h : KlOk c) (i : Nat) : regN c i < 18446744073709551616 := by
  match i with
  | 0 => exact h.a0
  | 1 => exact h.a1
  | 2 => exact h.a2
  | 3 => exact h.a3
  | i + 4 => simp [regN]
theorem regN_at (c : KL) (i : Nat) (h : i ≤ 3) : (klC c)[2 + i]? = some (.int .u64 (regN c i : Nat)) := by
  rcases (by omega : i = 0 ∨ i = 1 ∨ i = 2 ∨ i = 3) with rfl | rfl | rfl | rfl <;> rfl
/-- Does a cond on a number hold? -/
def holdsN (c : CD) (x : Nat) : Bool :=
  if c.op = 1 then x == c.v else if c.op = 2 then x != c.v else if c.op = 3 then decide (x < c.v) else if c.op = 4 then decide (x ≤ c.v)
  else if c.op = 5 then decide (c.v < x) else if c.op = 6 then decide (c.v ≤ x) else (x &&& c.m) == c.v

set_option maxHeartbeats 2000000 in
theorem holds_any (c : CD) (hc : CdOk c) (x : Nat) (hx : x < 18446744073709551616) (w : World) : Calls Try.prog 41 #[condV c, .int .u64 x] w fun e w' => e = .returned (.bool (holdsN c x)) ∧ Below w.heap.size w w' := by
  obtain ⟨arg, op, v, m, g, ⟨ip, b, lo, hi⟩⟩ := c
  have hand : bits .and .u64 (x : Int) (m : Int) = ((x &&& m : Nat) : Int) := u64_and_nat x m hx hc.m
  clear hc
  obtain ⟨y, hy⟩ : ∃ y : Nat, y = x &&& m := ⟨_, rfl⟩
  rw [← hy] at hand
  have HY := hide hy
  clear hy
  unfold condV
  simp only
  go_enter Try.func41, Try.ntmps41
  go_wp2
  all_goals
    go_ret
    refine ⟨ret_bool ?_, box_below _ _⟩
  all_goals
    clear hand
    first
    | (simp_all [holdsN]; done)
    | (rw [Bool.eq_iff_iff]; simp_all [holdsN]; done)
    | (rw [Bool.eq_iff_iff]; simp_all [holdsN]; omega)
    | (have := HY.out; rw [Bool.eq_iff_iff]; simp_all [holdsN]; omega)
end Go.Proofs.Ytphkhfeofoadcab

/- fits, isDeep, leads. -/
namespace Go.Proofs.Ytphkhfeofoadcab
open Go.RowKit Go.Sort

def numB (c : CD) : Bool := kindOp c.op == 1
/-- Does a cond that is on a number hold, or is it on none? -/
def regB (k : KL) (c : CD) : Bool := !numB c || holdsN c (regN k c.arg.toNat)
def fitsB (r : RL) (k : KL) : Bool := decide ((k.nr : Int) = r.nr) && r.conds.all (regB k)
def deepB (r : RL) : Bool := r.conds.any fun c => !numB c

theorem rule_parts {r : RL} {oa : Option Addr} {w : World} (hc : IsConds oa r.conds w) (n : Nat) (hn : n = r.conds.length) : 0 < n → ∃ b off, oa = some ⟨b, off, none⟩ ∧ b < w.heap.size ∧ Hid (∀ i c, r.conds[i]? = some c → CondAt w b (off + i * 9) c) := conds_parts hc n hn
theorem all_take_snoc {α : Type} {f : α → Bool} {l : List α} {i : Nat} {c : α} (h : l.take (i + 1) = l.take i ++ [c]) (h0 : (l.take i).all f = true) : (l.take (i + 1)).all f = f c := by rw [h, List.all_append, h0]; simp
theorem all_take_false {α : Type} {f : α → Bool} {l : List α} {i : Nat} (h : (l.take i).all f = false) : l.all f = false := by
  rw [← List.take_append_drop i l, List.all_append, h, Bool.false_and]

set_option maxHeartbeats 4000000 in
theorem isDeep_any (r : RL) (hf : r.conds.length ≤ 4) (oa : Option Addr) (cap : Nat) (w : World) (hc : IsConds oa r.conds w) :
    Calls Try.prog 28 #[ruleV r oa cap] w fun e w' => e = .returned (.bool (deepB r)) ∧ Below w.heap.size w w' := by
  obtain ⟨n, hn⟩ : ∃ n, n = r.conds.length := ⟨_, rfl⟩
  have HC := hide (conds_parts hc n hn)
  have h4 : n ≤ 4 := by omega
  have HL := hide (show ∀ i, i < n → ∃ c, r.conds[i]? = some c ∧ r.conds.take (i + 1) = r.conds.take i ++ [c] from fun i h => take_next (by omega))
  have HD := hide (show deepB r = !(r.conds.all numB) by unfold deepB; rw [List.any_eq_not_all_not]; simp)
  obtain ⟨z, hz⟩ : ∃ z, z = deepB r := ⟨_, rfl⟩
  rw [← hz] at HD ⊢
  clear hc hf hz
  obtain ⟨nr, cs, ⟨ak, ae⟩⟩ := r
  unfold ruleV
  simp only at HC HL HD hn ⊢
  rw [← hn]
  have HN := hide hn
  clear hn
  go_enter Try.func28, Try.ntmps28
  go_wp2
  obtain ⟨V, hV, hB, hsz, hx⟩ := one_box w #[.int .i64 nr, .slice oa n cap, .int .i64 ak, .int .i64 ae] 58
  rw [← hV]
  clear hV
  have k1 := hx 1
  go_loopw [7] (fun I w' => ∃ i : Nat, i ≤ n ∧ I = .int .i64 i ∧ Hid ((cs.take i).all numB = true) ∧ w' = V) (fun I _ => n - (intOf I).toNat)
  case atStart => exact ⟨0, by omega, rfl, hide rfl, rfl⟩
  case round =>
    obtain ⟨i, hi, rfl, HG, rfl⟩ := hrel
    by_cases hlt : i < n
    · obtain ⟨c, hcs, hcat⟩ := HL.out i hlt
      obtain ⟨b, off, rfl, hbw, HA⟩ := HC.out (by omega)
      have hA := (HA.out i c hcs).on fun j => (bcell hB).1 b j hbw
      have c1 := hA.k1
      have HQ := hide (all_take_snoc (f := numB) hcat HG.out)
      have HK := fun w => kindOf_any c.op w
      obtain ⟨ko, hko⟩ : ∃ k : Int, k = (kindOp c.op : Nat) := ⟨_, rfl⟩
      rw [← hko] at HK
      have hnb : numB c = (ko == 1) := by unfold numB; rw [hko, Bool.eq_iff_iff]; simp; omega
      rw [hnb] at HQ
      clear hko hnb hcs hcat hA hx
      obtain ⟨op, hop⟩ : ∃ o, o = c.op := ⟨_, rfl⟩
      rw [← hop] at HK c1
      clear hop
      cases hkb : (ko == 1) with
      | true =>
        rw [hkb] at HQ
        have hk1 : ko = 1 := by simpa using hkb
        subst hk1
        go_wp2_with (go_at_call 40; refine (HK _).mono ?_; rintro e w' ⟨rfl, rfl⟩)
        go_round
        case rel => exact ⟨i + 1, by omega, by go_num, HQ, trivial⟩
        case measure => simp [intOf]; omega
      | false =>
        rw [hkb] at HQ
        have hk1 : ¬ ko = 1 := by simpa using hkb
        have HZ := hide (show z = true by rw [HD.out, all_take_false HQ.out]; rfl)
        clear hkb
        go_wp2_with (go_at_call 40; refine (HK _).mono ?_; rintro e w' ⟨rfl, rfl⟩)
        go_ret
        exact ⟨ret_bool HZ.out.symm, hB⟩
    · obtain rfl : i = n := by omega
      have HZ := hide (show z = false by
        have := HG.out
        rw [List.take_of_length_le (by rw [HN.out]; exact Nat.le_refl _)] at this
        rw [HD.out, this]; rfl)
      go_wp2
      go_ret
      exact ⟨ret_bool HZ.out.symm, hB⟩

theorem shape_arg {c : CD} (h : Shape c) : ∃ a : Nat, c.arg = a ∧ a ≤ 3 := by
  cases h with
  | num a k v ha h1 h6 hv => exact ⟨a, rfl, ha⟩
  | mask a v m ha hv hm => exact ⟨a, rfl, ha⟩
  | like a g ha hg => exact ⟨a, rfl, ha⟩
  | net a ip b lo hi ha hip hf => exact ⟨a, rfl, ha⟩
set_option maxHeartbeats 4000000 in
theorem fits_any (r : RL) (h : RuleOk r) (oa : Option Addr) (cap : Nat) (k : KL) (hk : KlOk k) (w : World) (hc : IsConds oa r.conds w) :
    Calls Try.prog 27 #[ruleV r oa cap, klV k] w fun e w' => e = .returned (.bool (fitsB r k)) ∧ Below w.heap.size w w' := by
  obtain ⟨n, hn⟩ : ∃ n, n = r.conds.length := ⟨_, rfl⟩
  have HC := hide (conds_parts hc n hn)
  have h4 : n ≤ 4 := by have := h.few; omega
  have HSH := hide h.conds
  have HL := hide (show ∀ i, i < n → ∃ c, r.conds[i]? = some c ∧ r.conds.take (i + 1) = r.conds.take i ++ [c] from fun i h => take_next (by omega))
  obtain ⟨m, hm⟩ : ∃ m : Nat, r.nr = m := ⟨r.nr.toNat, by have := h.nr0; omega⟩
  have hm8 : m ≤ 8 := by have := h.nr8; omega
  have HZ := hide (show fitsB r k = (decide ((k.nr : Int) = r.nr) && r.conds.all (regB k)) from rfl)
  obtain ⟨z, hz⟩ : ∃ z, z = fitsB r k := ⟨_, rfl⟩
  rw [← hz] at HZ ⊢
  clear hc hz h
  obtain ⟨nr, cs, ⟨ak, ae⟩⟩ := r
  unfold ruleV klV klC
  simp only at HC HL HZ HSH hn hm ⊢
  subst hm
  rw [← hn]
  have HN := hide hn
  clear hn
  have hwr : IntKind.u32.wrap (m : Int) = m := by rw [IntKind.wrap_u32]; omega
  by_cases hne : k.nr = m
  · have HZ2 := hide (show z = cs.all (regB k) by rw [HZ.out, hne]; simp)
    have hnn : (k.nr : Int) = m := by omega
    clear HZ
    obtain ⟨V, hV, hB, hx, hy⟩ := two_box w #[.int .i64 m, .slice oa n cap, .int .i64 ak, .int .i64 ae] (klC k) 58 53
    have HY := hide hy
    have k1 := hx 1
    have kn := hy 1
    have kn2 : V.cell? ⟨w.heap.size + 1, 1, none⟩ = some (.int .u32 m) := by rw [kn]; show some (Value.int .u32 (k.nr : Int)) = _; rw [hnn]
    clear kn hy
    unfold klC at hV
    rw [hnn] at hV ⊢
    have HREG := hide (regN_at k)
    have HKO := hide (fun i => regN_lt hk i)
    obtain ⟨kar, hkar⟩ : ∃ x, x = k.arch := ⟨_, rfl⟩
    obtain ⟨kb0, hkb0⟩ : ∃ x, x = k.a0 := ⟨_, rfl⟩
    obtain ⟨kb1, hkb1⟩ : ∃ x, x = k.a1 := ⟨_, rfl⟩
    obtain ⟨kb2, hkb2⟩ : ∃ x, x = k.a2 := ⟨_, rfl⟩
    obtain ⟨kb3, hkb3⟩ : ∃ x, x = k.a3 := ⟨_, rfl⟩
    rw [← hkar, ← hkb0, ← hkb1, ← hkb2, ← hkb3] at hV ⊢
    clear hkar hkb0 hkb1 hkb2 hkb3 hk hne hnn
    go_enter Try.func27, Try.ntmps27
    go_wp2
    rw [← hV]
    clear hV
    go_loopw [16] (fun I w' => ∃ i : Nat, i ≤ n ∧ I = .int .i64 i ∧ Hid ((cs.take i).all (regB k) = true) ∧ Hid (Below V.heap.size V w')) (fun I _ => n - (intOf I).toNat)
    case atStart => exact ⟨0, by omega, rfl, hide rfl, hide (Below.refl _ _)⟩
    case round =>
      obtain ⟨i, hi, rfl, HG, HB⟩ := hrel
      have HW := hide (below_next hB HB.out)
      by_cases hlt : i < n
      · obtain ⟨c, hcs, hcat⟩ := HL.out i hlt
        obtain ⟨b, off, rfl, hbw, HA⟩ := HC.out (by omega)
        have hA := (HA.out i c hcs).on fun j => (bcell HW.out).1 b j hbw
        have HQ := hide (all_take_snoc (f := regB k) hcat HG.out)
        have hok := hA.ok
        obtain ⟨a, haa, ha3⟩ := shape_arg (HSH.out c (List.mem_of_getElem? hcs))
        obtain ⟨x, hxx⟩ : ∃ x, x = regN k a := ⟨_, rfl⟩
        have hxl : x < 18446744073709551616 := by rw [hxx]; exact HKO.out a
        have kreg := (HY.out (2 + a)).trans (HREG.out a ha3)
        rw [← hxx] at kreg
        have HH := fun w => holds_any c hok x hxl w
        have HRB := hide (show regB k c = (!numB c || holdsN c x) by unfold regB; rw [haa, Int.toNat_natCast, hxx])
        obtain ⟨hl, hhl⟩ : ∃ z, z = holdsN c x := ⟨_, rfl⟩
        rw [← hhl] at HH HRB
        have HK := fun w => kindOf_any c.op w
        obtain ⟨ko, hko⟩ : ∃ k : Int, k = (kindOp c.op : Nat) := ⟨_, rfl⟩
        rw [← hko] at HK
        have hnb : numB c = (ko == 1) := by unfold numB; rw [hko, Bool.eq_iff_iff]; simp; omega
        rw [hnb] at HRB
        rw [HRB.out] at HQ
        obtain ⟨p0, p1, p2, p3, p4, p5, p6, p7, p8, _⟩ := hA
        clear hko hnb hcs hcat hxx hxl hhl hok HRB
        obtain ⟨arg, op, v, mm, gl, ⟨ip, bb, lo, hh⟩⟩ := c
        unfold condV at HH
        simp only at p0 p1 p2 p3 p4 p5 p6 p7 p8 HH HK haa
        subst haa
        have g1 := keep_cell HB.out k1
        have i1 : (0 : Int) ≤ a := by omega
        have i2 : (a : Int) < 4 := by omega
        go_wp2
        obtain ⟨W1, hW1, hW1b, _, hW1c⟩ := one_box wr #[.int .i64 a, .int .i64 op, .int .u64 v, .int .u64 mm, .string gl, .int .u32 ip, .int .i64 bb, .int .i64 lo, .int .i64 hh] 62
        rw [← hW1]
        clear hW1
        have g0 := cell_regrown (hW1c 0)
        have g1' := cell_regrown (hW1c 1)
        have g2 := cell_regrown (hW1c 2)
        have g3 := cell_regrown (hW1c 3)
        have g4 := cell_regrown (hW1c 4)
        have g5 := cell_regrown (hW1c 5)
        have g6 := cell_regrown (hW1c 6)
        have g7 := cell_regrown (hW1c 7)
        have g8 := cell_regrown (hW1c 8)
        have gr := cell_regrown (keep_cell (below_next HB.out hW1b) kreg)
        have cK : ∀ d os, Calls Try.prog 40 #[.int .i64 op] (grow (redrawn W1 d) os) fun e w'' => e = .returned (.int .i64 ko) ∧ ∃ p : Regrown, w'' = grow (redrawn W1 p.d) p.os := fun d os => regrown_same (HK _)
        have cH : ∀ d os, Calls Try.prog 41 #[.agg #[.int .i64 a, .int .i64 op, .int .u64 v, .int .u64 mm, .string gl, .int .u32 ip, .int .i64 bb, .int .i64 lo, .int .i64 hh], .int .u64 x] (grow (redrawn W1 d) os) fun e w'' => e = .returned (.bool hl) ∧ ∃ p : Regrown, w'' = grow (redrawn W1 p.d) p.os := fun d os => Calls.regrown_of (HH _)
        clear hW1c p0 p1 p2 p3 p4 p5 p6 p7 p8 HH HK kreg
        cases hkb : (ko == 1) with
        | false =>
          rw [hkb] at HQ
          refine wp_region_quiet_below (by kernel_rfl) (by kernel_rfl) ?_
          repeat (go_big_quiet_step (first | (go_at_call 40; exact cK _ _) | (go_at_call 41; exact cH _ _)))
          refine wpQuiet_nil ?_
          intro _ hw'
          obtain ⟨⟨dq, osq⟩, hw''⟩ := hw'
          subst hw''
          go_wp2
          go_round
          case rel => exact ⟨i + 1, by omega, by go_num, HQ, hide (below_next (below_next HB.out hW1b) (below_regrown _ _ _))⟩
          case measure => simp [intOf]; omega
        | true =>
          rw [hkb] at HQ
          cases hl with
          | true =>
            refine wp_region_quiet_below (by kernel_rfl) (by kernel_rfl) ?_
            repeat (go_big_quiet_step (first | (go_at_call 40; exact cK _ _) | (go_at_call 41; exact cH _ _)))
            refine wpQuiet_nil ?_
            intro _ hw'
            obtain ⟨⟨dq, osq⟩, hw''⟩ := hw'
            subst hw''
            go_wp2
            go_round
            case rel => exact ⟨i + 1, by omega, by go_num, HQ, hide (below_next (below_next HB.out hW1b) (below_regrown _ _ _))⟩
            case measure => simp [intOf]; omega
          | false =>
            have HF := hide (show z = false by rw [HZ2.out]; exact all_take_false HQ.out)
            refine wp_region_quiet_below (by kernel_rfl) (by kernel_rfl) ?_
            repeat (go_big_quiet_step (first | (go_at_call 40; exact cK _ _) | (go_at_call 41; exact cH _ _)))
            refine wpQuiet_nil ?_
            intro _ hw'
            obtain ⟨⟨dq, osq⟩, hw''⟩ := hw'
            subst hw''
            go_wp2
            go_ret
            exact ⟨ret_bool HF.out.symm, below_next (below_next HW.out hW1b) (below_regrown _ _ _)⟩
      · obtain rfl : i = n := by omega
        have HF := hide (show z = true by
          have := HG.out
          rw [List.take_of_length_le (by rw [HN.out]; exact Nat.le_refl _)] at this
          rw [HZ2.out, this])
        go_wp2
        go_ret
        exact ⟨ret_bool HF.out.symm, HW.out⟩
  · have HF := hide (show z = false by
      rw [HZ.out, decide_eq_false (by omega), Bool.false_and])
    have hn1 : ¬ (k.nr : Int) = m := by omega
    clear hne HZ
    go_enter Try.func27, Try.ntmps27
    go_wp2
    go_ret
    exact ⟨ret_bool HF.out.symm, below_next (box_below _ _) (box_below _ _)⟩
end Go.Proofs.Ytphkhfeofoadcab

/- leads. -/
namespace Go.Proofs.Ytphkhfeofoadcab
open Go.RowKit Go.Sort

/-- A value that a pointer leads to. -/
structure VL where
  path : ByteArray
  ip : Nat
  port : Int
structure VlOk (v : VL) : Prop where
  path : v.path.size ≤ 1000
  ip : v.ip < 4294967296
  port : I64 v.port
/-- The values of a call. -/
structure VS where
  v0 : VL
  v1 : VL
  v2 : VL
  v3 : VL
def VS.at (v : VS) : Nat → VL
  | 0 => v.v0
  | 1 => v.v1
  | 2 => v.v2
  | _ => v.v3
structure VsOk (v : VS) : Prop where
  v0 : VlOk v.v0
  v1 : VlOk v.v1
  v2 : VlOk v.v2
  v3 : VlOk v.v3
theorem VsOk.at {v : VS} (h : VsOk v) (i : Nat) : VlOk (v.at i) := by
  match i with
  | 0 => exact h.v0
  | 1 => exact h.v1
  | 2 => exact h.v2
  | i + 3 => exact h.v3
def vsC (v : VS) : Array Value := #[.string v.v0.path, .int .u32 v.v0.ip, .int .i64 v.v0.port, .string v.v1.path, .int .u32 v.v1.ip, .int .i64 v.v1.port, .string v.v2.path, .int .u32 v.v2.ip, .int .i64 v.v2.port, .string v.v3.path, .int .u32 v.v3.ip, .int .i64 v.v3.port]
def vsV (v : VS) : Value := .agg (vsC v)
theorem vsC_at (v : VS) (i : Nat) (h : i ≤ 3) : (vsC v)[i * 3]? = some (.string (v.at i).path) ∧ (vsC v)[i * 3 + 1]? = some (.int .u32 (v.at i).ip) ∧ (vsC v)[i * 3 + 2]? = some (.int .i64 (v.at i).port) := by
  rcases (by omega : i = 0 ∨ i = 1 ∨ i = 2 ∨ i = 3) with rfl | rfl | rfl | rfl <;> exact ⟨rfl, rfl, rfl⟩
def netHas (n : NT) (y : VL) : Bool := hasOf n.ip n.bits n.lo n.hi y.ip y.port
/-- Does a cond on what a pointer leads to hold, or is it on none? -/
def leadB (v : VS) (c : CD) : Bool := if c.op = 8 then Gl.matchR c.glob (v.at c.arg.toNat).path else if c.op = 9 then netHas c.net (v.at c.arg.toNat) else true
def leadsB (r : RL) (v : VS) : Bool := r.conds.all (leadB v)

end Go.Proofs.Ytphkhfeofoadcab

/- policy.Judge. -/
namespace Go.Proofs.Ytphkhfeofoadcab
open Go.RowKit Go.Sort

def judgeFrom (k : KL) (els : ACT) : List RL → Nat → ACT × Nat
  | [], _ => (els, 0)
  | r :: t, i => if fitsB r k then (if deepB r then (⟨4, 0⟩, i) else (r.act, 0)) else judgeFrom k els t (i + 1)
def judgeR (p : POL) (k : KL) : ACT × Nat := if k.arch = 3221225534 then judgeFrom k p.els p.rules 0 else (⟨3, 0⟩, 0)
def decideFrom (k : KL) (v : VS) (els : ACT) : List RL → ACT
  | [] => els
  | r :: t => if fitsB r k && leadsB r v then r.act else decideFrom k v els t
def decideR (p : POL) (k : KL) (v : VS) : ACT := if k.arch = 3221225534 then decideFrom k v p.els p.rules else ⟨3, 0⟩
def verC (a : ACT) (i : Nat) : Array Value := #[.int .i64 a.kind, .int .i64 a.errno, .int .i64 i]
def verV (x : ACT × Nat) : Value := .agg (verC x.1 x.2)
/-- What Judge hands back. -/
def judgeV (p : POL) (k : KL) : Value := .tuple #[if polF p = 0 then verV (judgeR p k) else verV (⟨0, 0⟩, 0), errV (polF p)]
def decideV (p : POL) (k : KL) (v : VS) : Value := .tuple #[if polF p = 0 then actV (decideR p k v) else actV ⟨0, 0⟩, errV (polF p)]
theorem size_ver : (Try.prog.info? 31).map (·.size) = some 3 := by kernel_rfl
theorem verC_one (a : ACT) (i : Nat) : (verC a i).all (·.oneCell') = true := by simp [verC, Value.oneCell']
theorem results_ver {fn : Func} {p u : Tmp} (h : fn.results = #[.cell p 31, .tmp u]) (tmps : Array Value) (w : World) (g : Nat) (cs : Array Value) (v : Value) (hs : cs.size = 3)
    (hp : tmps.getD p undef = .pointer (some ⟨g, 0, none⟩)) (hv : tmps.getD u undef = v) (hg : w.heap[g]? = some (.cells cs 31 (0, 0))) :
    (results fn tmps).run Try.prog w = .ok (.tuple #[.agg cs, v]) w := by
  rw [results_cell_tmp h, hp, hv]
  have hl := run_loadVar_row (P := Try.prog) w g 31 31 cs (0, 0) _ hg Try.underlying31 rfl (by rw [hs]; exact size_ver)
  simp [asAddr, hl]
theorem results_act {fn : Func} {p u : Tmp} (h : fn.results = #[.cell p 25, .tmp u]) (tmps : Array Value) (w : World) (g : Nat) (cs : Array Value) (v : Value) (hs : cs.size = 2)
    (hp : tmps.getD p undef = .pointer (some ⟨g, 0, none⟩)) (hv : tmps.getD u undef = v) (hg : w.heap[g]? = some (.cells cs 25 (0, 0))) :
    (results fn tmps).run Try.prog w = .ok (.tuple #[.agg cs, v]) w := by
  rw [results_cell_tmp h, hp, hv]
  have hl := run_loadVar_row (P := Try.prog) w g 25 25 cs (0, 0) _ hg Try.underlying25 rfl (by rw [hs]; exact size_action)
  simp [asAddr, hl]
theorem three_box (w : World) (x y z : Array Value) (tx ty tz : TypeId) : ∃ V, V = ((w.alloc (.cells x tx)).alloc (.cells y ty)).alloc (.cells z tz) ∧ Below w.heap.size w V ∧ V.heap.size = w.heap.size + 3 ∧ (∀ j : Nat, V.cell? ⟨w.heap.size, j, none⟩ = x[j]?) ∧ (∀ j : Nat, V.cell? ⟨w.heap.size + 1, j, none⟩ = y[j]?) ∧ V.heap[w.heap.size + 2]? = some (.cells z tz (0, 0)) := by
  obtain ⟨U, hU, hb, h1, h2⟩ := two_box w x y tx ty
  have hs : U.heap.size = w.heap.size + 2 := by rw [hU, World.size_alloc, World.size_alloc]
  refine ⟨U.alloc (.cells z tz), by rw [hU], below_next hb (box_below _ _), by rw [World.size_alloc, hs], fun j => ?_, fun j => ?_, ?_⟩
  · rw [← h1 j]; exact (bcell (box_below U _)).1 _ j (by omega)
  · rw [← h2 j]; exact (bcell (box_below U _)).1 _ j (by omega)
  · rw [← hs]; exact heap_alloc_new _ _

theorem drop_next {α : Type} {cs : List α} {i : Nat} (h : i < cs.length) : ∃ c, cs[i]? = some c ∧ cs.drop i = c :: cs.drop (i + 1) :=
  ⟨cs[i], List.getElem?_eq_getElem h, (List.getElem_cons_drop h).symm⟩

set_option maxHeartbeats 1000000 in
set_option maxRecDepth 100000 in
theorem judge_any (p : POL) (oa : Option Addr) (cap : Nat) (k : KL) (hk : KlOk k) (w : World) (hp : IsPol oa cap p w) :
    Calls Try.prog 16 #[polV p oa cap, klV k] w fun e w' => e = .returned (judgeV p k) ∧ Below w.heap.size w w' := by
  obtain ⟨n, hn⟩ : ∃ n, n = p.rules.length := ⟨_, rfl⟩
  obtain ⟨V, hV, hB, hVs, hx, hy, hz⟩ := three_box w #[.slice oa p.rules.length cap, .int .i64 p.els.kind, .int .i64 p.els.errno] (klC k) #[.int .i64 0, .int .i64 0, .int .i64 0] 27 53 31
  have HCK := pcheck_any p oa cap V (hp.on hB)
  have HC := hide (pol_parts hp n hn)
  have hmax : n ≤ 9223372036854775807 := by have h1 := hp.le; have h2 := hp.cap; unfold maxLen at h2; omega
  have hpk := hp.ok
  clear hp
  unfold klC at hV hy
  by_cases hf : polF p = 0
  · have hok := pol_ok hf hpk
    have HV := hide (show judgeV p k = .tuple #[verV (judgeR p k), .nilIface] by unfold judgeV; rw [if_pos hf, hf]; rfl)
    rw [hf, errV_zero] at HCK
    have HRU := hide hok.rules
    have h12 : n ≤ 12 := by have := hok.few; omega
    have HFT := fun r hr oa cap X hc => fits_any r hr oa cap k hk X hc
    have HKL := hide hk
    clear hf hpk hok hk
    obtain ⟨rs, ⟨ak, ae⟩⟩ := p
    have HL := hide (show ∀ i, i < n → ∃ c, rs[i]? = some c ∧ rs.drop i = c :: rs.drop (i + 1) from fun i h => drop_next (by simp only at hn; omega))
    unfold polV klV klC at *
    simp only at *
    rw [← hn] at hV hx HCK ⊢
    have HN := hide hn
    clear hn
    obtain ⟨kar, kn, b0, b1, b2, b3⟩ := k
    simp only at *
    have x0 := hx 0
    have x1 := hx 1
    have x2 := hx 2
    have y0 := hy 0
    have y1 := hy 1
    have y2 := hy 2
    have y3 := hy 3
    have y4 := hy 4
    have y5 := hy 5
    simp only [List.getElem?_toArray, List.getElem?_cons_zero, List.getElem?_cons_succ] at x0 x1 x2 y0 y1 y2 y3 y4 y5
    clear hx hy
    by_cases ha : kar = 3221225534
    · have HJ := hide (show judgeR ⟨rs, ⟨ak, ae⟩⟩ ⟨kar, kn, b0, b1, b2, b3⟩ = judgeFrom ⟨kar, kn, b0, b1, b2, b3⟩ ⟨ak, ae⟩ rs 0 from if_pos ha)
      have ha' : (kar : Int) = 3221225534 := by omega
      rw [ha'] at hV y0 ⊢
      have HKA := hide ha'
      clear ha ha'
      go_enter Try.func16, Try.ntmps16
      go_wp2_with (go_at_call 13; rw [← hV]; clear hV; refine HCK.mono ?_; rintro e X ⟨rfl, hX⟩; have X0 := keep_cell hX x0; have X1 := keep_cell hX x1; have X2 := keep_cell hX x2; have Y0 := keep_cell hX y0; have Y1 := keep_cell hX y1; have Y2 := keep_cell hX y2; have Y3 := keep_cell hX y3; have Y4 := keep_cell hX y4; have Y5 := keep_cell hX y5)
      go_loopw [23] (fun I w' => ∃ i : Nat, i ≤ n ∧ I = .int .i64 i ∧ Hid (judgeFrom ⟨kar, kn, b0, b1, b2, b3⟩ ⟨ak, ae⟩ rs 0 = judgeFrom ⟨kar, kn, b0, b1, b2, b3⟩ ⟨ak, ae⟩ (rs.drop i) i) ∧ Hid (Below X.heap.size X w')) (fun I _ => n - (intOf I).toNat)
      case atStart => exact ⟨0, by omega, rfl, hide rfl, hide (Below.refl _ _)⟩
      case round =>
        obtain ⟨i, hi, rfl, HG, HB⟩ := hrel
        have HW := hide (below_next (below_next hB hX) HB.out)
        have HVW := hide (below_next hX HB.out)
        have hsw : w.heap.size + 2 < V.heap.size := by omega
        by_cases hlt : i < n
        · obtain ⟨c, hcs, hdr⟩ := HL.out i hlt
          obtain ⟨b, off, rfl, hbw, HA⟩ := HC.out (by omega)
          obtain ⟨ca, cc, hR0⟩ := HA.out i c hcs
          have hR := hR0.on hbw HW.out
          clear hR0
          have hro := HRU.out c (List.mem_of_getElem? hcs)
          have HF1 := HFT c hro ca cc
          have HD1 := fun X hc => isDeep_any c hro.few ca cc X hc
          have HIC := hide hR.conds
          have HG2 := hide (show judgeFrom ⟨kar, kn, b0, b1, b2, b3⟩ ⟨ak, ae⟩ rs 0 = if fitsB c ⟨kar, kn, b0, b1, b2, b3⟩ then (if deepB c then (⟨4, 0⟩, i) else (c.act, 0)) else judgeFrom ⟨kar, kn, b0, b1, b2, b3⟩ ⟨ak, ae⟩ (rs.drop (i + 1)) (i + 1) by rw [HG.out, hdr, judgeFrom])
          obtain ⟨fz, hfz⟩ : ∃ z, z = fitsB c ⟨kar, kn, b0, b1, b2, b3⟩ := ⟨_, rfl⟩
          obtain ⟨dz, hdz⟩ : ∃ z, z = deepB c := ⟨_, rfl⟩
          rw [← hfz] at HF1 HG2
          rw [← hdz] at HD1 HG2
          obtain ⟨p0, p1, p2, p3, _, _, _, _⟩ := hR
          clear hfz hdz hro hcs hdr HG
          obtain ⟨nr, cs, ⟨rk, re⟩⟩ := c
          unfold ruleV at HF1 HD1
          simp only at p0 p1 p2 p3 HF1 HD1 HG2 HIC
          simp only [HKA.out] at HF1
          have g0 := keep_cell HB.out X0
          have z0 := keep_cell HB.out Y0
          have z1 := keep_cell HB.out Y1
          have z2 := keep_cell HB.out Y2
          have z3 := keep_cell HB.out Y3
          have z4 := keep_cell HB.out Y4
          have z5 := keep_cell HB.out Y5
          have lw : w.heap.size + 1 < wr.heap.size := block_lt_of_cell z0
          cases fz with
          | false =>
            rw [if_neg (by decide)] at HG2
            go_wp2_with (go_at_call 27; refine (HF1 _ (HIC.out.on (box_below _ _))).mono ?_; rintro e w1 ⟨rfl, hb1⟩)
            go_round
            case rel => exact ⟨i + 1, by omega, by go_num, HG2, hide (below_next HB.out (below_next (box_below _ _) hb1))⟩
            case measure => simp [intOf]; omega
          | true =>
            rw [if_pos rfl] at HG2
            obtain ⟨W1, hW1, hW1b, _, hW1c⟩ := one_box wr #[.int .i64 nr, .slice ca cs.length cc, .int .i64 rk, .int .i64 re] 58
            have r0 := hW1c 0
            have r1 := hW1c 1
            have r2 := hW1c 2
            have r3 := hW1c 3
            simp only [List.getElem?_toArray, List.getElem?_cons_zero, List.getElem?_cons_succ] at r0 r1 r2 r3
            clear hW1c
            cases dz with
            | true =>
              rw [if_pos rfl] at HG2
              go_wp2_with (first
                | (go_at_call 27; rw [← hW1]; refine (HF1 _ (HIC.out.on hW1b)).mono ?_; rintro e w1 ⟨rfl, hb1⟩; have s0 := keep_cell hb1 r0; have s1 := keep_cell hb1 r1; have s2 := keep_cell hb1 r2; have s3 := keep_cell hb1 r3; have HB1 := hide hb1; clear hb1)
                | (go_at_call 28; refine (HD1 _ ((HIC.out.on hW1b).on HB1.out)).mono ?_; rintro e w2 ⟨rfl, hb2⟩; have hr2 : w2.heap[w.heap.size + 2]? = some (.cells #[.int .i64 0, .int .i64 0, .int .i64 0] 31 (0, 0)) := ((below_next HVW.out (below_next hW1b (below_next HB1.out hb2))).block _ hsw).trans hz)
                | (refine wpList_store_row rfl 31 _ _ rfl (w.heap.size + 2) (verC ⟨4, 0⟩ i) rfl rfl 31 _ hr2 size_ver rfl (verC_one _ _) ?_))
              refine bodyPost_ret (v := .tuple #[.agg (verC ⟨4, 0⟩ i), .nilIface]) (results_ver rfl _ _ (w.heap.size + 2) (verC ⟨4, 0⟩ i) _ rfl rfl rfl (setRow_heap _ _ _ _ _ _ hr2)) rfl ⟨?_, below_setRow (below_next HW.out (below_next hW1b (below_next HB1.out hb2))) (by omega) _⟩
              rw [HV.out, HJ.out, HG2.out]
              rfl
            | false =>
              rw [if_neg (by decide)] at HG2
              go_wp2_with (first
                | (go_at_call 27; rw [← hW1]; refine (HF1 _ (HIC.out.on hW1b)).mono ?_; rintro e w1 ⟨rfl, hb1⟩; have s0 := keep_cell hb1 r0; have s1 := keep_cell hb1 r1; have s2 := keep_cell hb1 r2; have s3 := keep_cell hb1 r3; have HB1 := hide hb1; clear hb1)
                | (go_at_call 28; refine (HD1 _ ((HIC.out.on hW1b).on HB1.out)).mono ?_; rintro e w2 ⟨rfl, hb2⟩; have t2 := keep_cell hb2 s2; have t3 := keep_cell hb2 s3; have hr2 : w2.heap[w.heap.size + 2]? = some (.cells #[.int .i64 0, .int .i64 0, .int .i64 0] 31 (0, 0)) := ((below_next HVW.out (below_next hW1b (below_next HB1.out hb2))).block _ hsw).trans hz)
                | (refine wpList_store_row rfl 31 _ _ rfl (w.heap.size + 2) (verC ⟨rk, re⟩ 0) rfl rfl 31 _ hr2 size_ver rfl (verC_one _ _) ?_))
              refine bodyPost_ret (v := .tuple #[.agg (verC ⟨rk, re⟩ 0), .nilIface]) (results_ver rfl _ _ (w.heap.size + 2) (verC ⟨rk, re⟩ 0) _ rfl rfl rfl (setRow_heap _ _ _ _ _ _ hr2)) rfl ⟨?_, below_setRow (below_next HW.out (below_next hW1b (below_next HB1.out hb2))) (by omega) _⟩
              rw [HV.out, HJ.out, HG2.out]
              rfl
        · obtain rfl : i = n := by omega
          have HG2 := hide (show judgeFrom ⟨kar, kn, b0, b1, b2, b3⟩ ⟨ak, ae⟩ rs 0 = (⟨ak, ae⟩, 0) by
            rw [HG.out, List.drop_eq_nil_of_le (by rw [HN.out]; exact Nat.le_refl _), judgeFrom])
          have g1 := keep_cell HB.out X1
          have g2 := keep_cell HB.out X2
          have hr2 : wr.heap[w.heap.size + 2]? = some (.cells #[.int .i64 0, .int .i64 0, .int .i64 0] 31 (0, 0)) := (HVW.out.block _ hsw).trans hz
          go_wp2_with (refine wpList_store_row rfl 31 _ _ rfl (w.heap.size + 2) (verC ⟨ak, ae⟩ 0) rfl rfl 31 _ hr2 size_ver rfl (verC_one _ _) ?_)
          refine bodyPost_ret (v := .tuple #[.agg (verC ⟨ak, ae⟩ 0), .nilIface]) (results_ver rfl _ _ (w.heap.size + 2) (verC ⟨ak, ae⟩ 0) _ rfl rfl rfl (setRow_heap _ _ _ _ _ _ hr2)) rfl ⟨?_, below_setRow HW.out (by omega) _⟩
          rw [HV.out, HJ.out, HG2.out]
          rfl
    · have HJ := hide (show judgeR ⟨rs, ⟨ak, ae⟩⟩ ⟨kar, kn, b0, b1, b2, b3⟩ = (⟨3, 0⟩, 0) from if_neg ha)
      have ha' : ¬ (kar : Int) = 3221225534 := by omega
      clear ha
      go_enter Try.func16, Try.ntmps16
      go_wp2_with (first
        | (go_at_call 13; rw [← hV]; clear hV; refine HCK.mono ?_; rintro e X ⟨rfl, hX⟩; have Y0 := keep_cell hX y0; have hr2 : X.heap[w.heap.size + 2]? = some (.cells #[.int .i64 0, .int .i64 0, .int .i64 0] 31 (0, 0)) := (hX.block _ (by omega)).trans hz)
        | (refine wpList_store_row rfl 31 _ _ rfl (w.heap.size + 2) (verC ⟨3, 0⟩ 0) rfl rfl 31 _ hr2 size_ver rfl (verC_one _ _) ?_))
      refine bodyPost_ret (v := .tuple #[.agg (verC ⟨3, 0⟩ 0), .nilIface]) (results_ver rfl _ _ (w.heap.size + 2) (verC ⟨3, 0⟩ 0) _ rfl rfl rfl (setRow_heap _ _ _ _ _ _ hr2)) rfl ⟨?_, below_setRow (below_next hB hX) (by omega) _⟩
      rw [HV.out, HJ.out]
      rfl
  · have HV := hide (show judgeV p k = .tuple #[verV (⟨0, 0⟩, 0), .iface 63 (.int .i64 (polF p : Nat))] by unfold judgeV; rw [if_neg hf, errV_pos hf])
    rw [errV_pos hf] at HCK
    clear hf hpk hk HC
    unfold polV klV klC at *
    have x0 := hx 0
    have x1 := hx 1
    have x2 := hx 2
    simp only [List.getElem?_toArray, List.getElem?_cons_zero, List.getElem?_cons_succ] at x0 x1 x2
    clear hx hy
    go_enter Try.func16, Try.ntmps16
    go_wp2_with (first
      | (go_at_call 13; rw [← hV]; clear hV; refine HCK.mono ?_; rintro e X ⟨rfl, hX⟩; have hr2 : X.heap[w.heap.size + 2]? = some (.cells #[.int .i64 0, .int .i64 0, .int .i64 0] 31 (0, 0)) := (hX.block _ (by omega)).trans hz)
      | (refine wpList_store_row rfl 31 _ _ rfl (w.heap.size + 2) (verC ⟨0, 0⟩ 0) rfl rfl 31 _ hr2 size_ver rfl (verC_one _ _) ?_))
    refine bodyPost_ret (v := .tuple #[.agg (verC ⟨0, 0⟩ 0), .iface 63 (.int .i64 (polF p : Nat))]) (results_ver rfl _ _ (w.heap.size + 2) (verC ⟨0, 0⟩ 0) _ rfl rfl rfl (setRow_heap _ _ _ _ _ _ hr2)) rfl ⟨?_, below_setRow (below_next hB hX) (by omega) _⟩
    rw [HV.out]
    rfl
end Go.Proofs.Ytphkhfeofoadcab

/- Instructions and calls, as values and cells; the small functions of package bpf. -/
namespace Go.Proofs.Ytphkhfeofoadcab.Bp
open Go.RowKit

/-- An instruction. -/
structure IN where
  op : Int
  jt : Int
  jf : Int
  k : Nat
def insV (x : IN) : Value := .agg #[.int .i64 x.op, .int .i64 x.jt, .int .i64 x.jf, .int .u32 x.k]
structure InOk (x : IN) : Prop where
  op1 : -9223372036854775808 ≤ x.op
  op2 : x.op ≤ 9223372036854775807
  jt1 : -9223372036854775808 ≤ x.jt
  jt2 : x.jt ≤ 9223372036854775807
  jf1 : -9223372036854775808 ≤ x.jf
  jf2 : x.jf ≤ 9223372036854775807
  k2 : x.k < 4294967296
/-- A call. -/
structure CL where
  arch : Nat
  nr : Nat
  a0 : Nat
  a1 : Nat
  a2 : Nat
  a3 : Nat
def callV (c : CL) : Value := .agg #[.int .u32 c.arch, .int .u32 c.nr, .int .u64 c.a0, .int .u64 c.a1, .int .u64 c.a2, .int .u64 c.a3]
structure ClOk (c : CL) : Prop where
  arch : c.arch < 4294967296
  nr : c.nr < 4294967296
  a0 : c.a0 < 18446744073709551616
  a1 : c.a1 < 18446744073709551616
  a2 : c.a2 < 18446744073709551616
  a3 : c.a3 < 18446744073709551616

def placeB (k : Nat) : Bool := decide (k < 40) && decide (k % 4 = 0)
def skipB (n : Int) : Bool := decide (0 ≤ n) && decide (n ≤ 255)
def branchB (op : Int) : Bool := decide (4 ≤ op) && decide (op ≤ 7)

theorem isPlace_any (k : Nat) (hk : k < 4294967296) (w : World) : Calls Try.prog 38 #[.int .u32 k] w fun e w' => e = .returned (.bool (placeB k)) ∧ w' = w := by
  go_enter Try.func38, Try.ntmps38
  go_wp2
  all_goals
    go_ret
    exact ⟨ret_bool (by unfold placeB; rw [Bool.eq_iff_iff]; simp; try omega), rfl⟩
theorem isSkip_any (n : Int) (w : World) : Calls Try.prog 36 #[.int .i64 n] w fun e w' => e = .returned (.bool (skipB n)) ∧ w' = w := by
  go_enter Try.func36, Try.ntmps36
  go_wp2
  all_goals
    go_ret
    exact ⟨ret_bool (by unfold skipB; rw [Bool.eq_iff_iff]; simp; try omega), rfl⟩
theorem isBranch_any (n : Int) (w : World) : Calls Try.prog 37 #[.int .i64 n] w fun e w' => e = .returned (.bool (branchB n)) ∧ w' = w := by
  go_enter Try.func37, Try.ntmps37
  go_wp2
  all_goals
    go_ret
    exact ⟨ret_bool (by unfold branchB; rw [Bool.eq_iff_iff]; simp; try omega), rfl⟩

/-- Does a branch hold? -/
def holdsB (x : IN) (y : Nat) : Bool := if x.op == 4 then (y : Int) == (x.k : Int) else if x.op == 5 then decide (x.k < y) else if x.op == 6 then decide (x.k ≤ y) else ((y &&& x.k : Nat) : Int) != 0
theorem box_below (w : World) (o : Obj) : Below w.heap.size w (w.alloc o) := (Below.refl _ _).alloc (Nat.le_refl _) _
theorem holds_any (x : IN) (hx : InOk x) (y : Nat) (hy : y < 4294967296) (w : World) : Calls Try.prog 39 #[insV x, .int .u32 y] w fun e w' => e = .returned (.bool (holdsB x y)) ∧ Below w.heap.size w w' := by
  obtain ⟨op, jt, jf, k⟩ := x
  have hb := u32_and_nat y k hy hx.k2
  unfold insV
  simp only at hb ⊢
  go_enter Try.func39, Try.ntmps39
  go_wp2
  all_goals
    go_ret
    exact ⟨ret_bool (by simp [holdsB, *]), box_below _ _⟩

theorem below_next {w w1 w2 : World} (a : Below w.heap.size w w1) (b : Below w1.heap.size w1 w2) : Below w.heap.size w w2 := a.trans (b.mono a.size)
/-- How many a jump or a branch passes over. -/
def skipI (x : IN) (y : Nat) : Int := if x.op == 3 then (x.k : Int) else if holdsB x y then x.jt else x.jf
theorem skip_any (x : IN) (hx : InOk x) (y : Nat) (hy : y < 4294967296) (w : World) : Calls Try.prog 26 #[insV x, .int .u32 y] w fun e w' => e = .returned (.int .i64 (skipI x y)) ∧ Below w.heap.size w w' := by
  obtain ⟨op, jt, jf, k⟩ := x
  have hk : k < 4294967296 := hx.k2
  have HH := holds_any ⟨op, jt, jf, k⟩ hx y hy
  have HS := hide (show skipI ⟨op, jt, jf, k⟩ y = if op == 3 then (k : Int) else if holdsB ⟨op, jt, jf, k⟩ y then jt else jf from rfl)
  obtain ⟨z, hz⟩ : ∃ z, z = holdsB ⟨op, jt, jf, k⟩ y := ⟨_, rfl⟩
  rw [← hz] at HH HS
  clear hz hx
  unfold insV at HH ⊢
  simp only at HH ⊢
  go_enter Try.func26, Try.ntmps26
  go_wp2_with (go_at_call 39; refine (HH _).mono ?_; rintro e w' ⟨rfl, hb⟩; have hbc := bcell hb)
  all_goals
    go_ret
    refine ⟨ret_int ?_, ?_⟩
  all_goals first
    | (rw [HS.out]; simp [*])
    | exact box_below _ _
    | exact below_next (box_below _ _) hb

/-- A word of the record. -/
def wordN (c : CL) : Nat → Nat
  | 0 => c.nr
  | 1 => c.arch
  | 2 => c.a0 % 4294967296
  | 3 => c.a0 / 4294967296
  | 4 => c.a1 % 4294967296
  | 5 => c.a1 / 4294967296
  | 6 => c.a2 % 4294967296
  | 7 => c.a2 / 4294967296
  | 8 => c.a3 % 4294967296
  | 9 => c.a3 / 4294967296
  | _ => 0
theorem word_no (c : CL) (k : Nat) (hk : k < 4294967296) (hp : placeB k = false) (w : World) : Calls Try.prog 25 #[callV c, .int .u32 k] w fun e w' => e = .returned (.tuple #[.int .u32 0, .iface 63 (.int .i64 1)]) ∧ Below w.heap.size w w' := by
  have HP := fun w => isPlace_any k hk w
  rw [hp] at HP
  unfold callV
  go_enter Try.func25, Try.ntmps25
  go_wp2_with (go_at_call 38; refine (HP _).mono ?_; rintro e w' ⟨rfl, rfl⟩)
  go_ret2
  exact ⟨rfl, box_below _ _⟩
theorem place_cases {k : Nat} (h : placeB k = true) : k = 0 ∨ k = 4 ∨ k = 8 ∨ k = 12 ∨ k = 16 ∨ k = 20 ∨ k = 24 ∨ k = 28 ∨ k = 32 ∨ k = 36 := by
  unfold placeB at h
  rw [Bool.and_eq_true, decide_eq_true_eq, decide_eq_true_eq] at h
  omega
theorem word_ok (c : CL) (hc : ClOk c) (k : Nat) (hp : placeB k = true) (w : World) : Calls Try.prog 25 #[callV c, .int .u32 k] w fun e w' => e = .returned (.tuple #[.int .u32 (wordN c (k / 4)), .nilIface]) ∧ Below w.heap.size w w' := by
  have HP := fun w => isPlace_any k (by rcases place_cases hp with h | h | h | h | h | h | h | h | h | h <;> omega) w
  rw [hp] at HP
  obtain ⟨arch, nr, a0, a1, a2, a3⟩ := c
  obtain ⟨h1, h2, h3, h4, h5, h6⟩ := hc
  simp only at h1 h2 h3 h4 h5 h6
  unfold callV
  simp only
  rcases place_cases hp with rfl | rfl | rfl | rfl | rfl | rfl | rfl | rfl | rfl | rfl
  all_goals
    clear hp
    go_enter Try.func25, Try.ntmps25
    go_wp2_with (go_at_call 38; refine (HP _).mono ?_; rintro e w' ⟨rfl, rfl⟩)
    go_ret2
    refine ⟨?_, box_below _ _⟩
    first | rfl | (simp only [wordN]; congr 4; omega)
end Go.Proofs.Ytphkhfeofoadcab.Bp

/- checkInsn, Check. -/
namespace Go.Proofs.Ytphkhfeofoadcab.Bp
open Go.RowKit

/-- What is wrong with an instruction that has so many behind it: D2. -/
def faultI (x : IN) (behind : Nat) : Nat :=
  if decide (x.op < 1) || decide (8 < x.op) || !skipB x.jt || !skipB x.jf then 1
  else if !branchB x.op && (x.jt != 0 || x.jf != 0) then 3
  else if (x.op == 1 && !placeB x.k) || (x.op == 3 && decide (behind ≤ x.k)) || (branchB x.op && (decide ((behind : Int) ≤ x.jt) || decide ((behind : Int) ≤ x.jf))) then 1 else 0
/-- An error's number, as a value. -/
def errV (f : Nat) : Value := if f = 0 then .nilIface else .iface 63 (.int .i64 f)

theorem checkInsn_a (op jt jf : Int) (k : Nat) (m : Nat) (w : World) (h : op < 1 ∨ 8 < op ∨ skipB jt = false ∨ skipB jf = false) : Calls Try.prog 24 #[insV ⟨op, jt, jf, k⟩, .int .i64 m] w fun e w' => e = .returned (errV (faultI ⟨op, jt, jf, k⟩ m)) ∧ Below w.heap.size w w' := by
  have HF := hide (show faultI ⟨op, jt, jf, k⟩ m = 1 by
    unfold faultI
    rw [if_pos]
    rcases h with h | h | h | h <;> simp [h])
  unfold insV
  simp only
  by_cases d1 : op < 1
  · go_enter Try.func24, Try.ntmps24
    go_wp2
    go_ret
    exact ⟨by rw [HF.out]; rfl, box_below _ _⟩
  by_cases d2 : 8 < op
  · go_enter Try.func24, Try.ntmps24
    go_wp2
    go_ret
    exact ⟨by rw [HF.out]; rfl, box_below _ _⟩
  cases e1 : skipB jt with
  | false =>
    go_enter Try.func24, Try.ntmps24
    go_wp2_with (go_at_call 36; refine (isSkip_any _ _).mono ?_; rw [e1]; rintro e w' ⟨rfl, rfl⟩)
    go_ret
    exact ⟨by rw [HF.out]; rfl, box_below _ _⟩
  | true =>
    have e2 : skipB jf = false := by simp_all
    go_enter Try.func24, Try.ntmps24
    go_wp2_with (go_at_call 36; refine (isSkip_any _ _).mono ?_; (first | rw [e1] | rw [e2]); rintro e w' ⟨rfl, rfl⟩)
    go_ret
    exact ⟨by rw [HF.out]; rfl, box_below _ _⟩

theorem checkInsn_b (op jt jf : Int) (k : Nat) (m : Nat) (w : World) (d1 : ¬ op < 1) (d2 : ¬ 8 < op) (e1 : skipB jt = true) (e2 : skipB jf = true) (e3 : branchB op = false) (h : jt ≠ 0 ∨ jf ≠ 0) : Calls Try.prog 24 #[insV ⟨op, jt, jf, k⟩, .int .i64 m] w fun e w' => e = .returned (errV (faultI ⟨op, jt, jf, k⟩ m)) ∧ Below w.heap.size w w' := by
  have HF := hide (show faultI ⟨op, jt, jf, k⟩ m = 3 by
    unfold faultI
    rw [if_neg (by simp [d1, d2, e1, e2]), if_pos]
    rcases h with h | h <;> simp [h, e3])
  unfold insV
  simp only
  by_cases h0 : jt = 0
  · subst h0
    have h1 : jf ≠ 0 := by simpa using h
    go_enter Try.func24, Try.ntmps24
    go_wp2_with (first
      | (go_at_call 37; refine (isBranch_any _ _).mono ?_; rw [e3]; rintro e w' ⟨rfl, rfl⟩)
      | (go_at_call 36; refine (isSkip_any _ _).mono ?_; (first | rw [e1] | rw [e2]); rintro e w' ⟨rfl, rfl⟩))
    go_ret
    exact ⟨by rw [HF.out]; rfl, box_below _ _⟩
  · go_enter Try.func24, Try.ntmps24
    go_wp2_with (first
      | (go_at_call 37; refine (isBranch_any _ _).mono ?_; rw [e3]; rintro e w' ⟨rfl, rfl⟩)
      | (go_at_call 36; refine (isSkip_any _ _).mono ?_; (first | rw [e1] | rw [e2]); rintro e w' ⟨rfl, rfl⟩))
    go_ret
    exact ⟨by rw [HF.out]; rfl, box_below _ _⟩

theorem checkInsn_c (op : Int) (k : Nat) (hk : k < 4294967296) (m : Nat) (hm : m ≤ 4096) (w : World) (h : op = 1 ∨ op = 2 ∨ op = 3 ∨ op = 8) : Calls Try.prog 24 #[insV ⟨op, 0, 0, k⟩, .int .i64 m] w fun e w' => e = .returned (errV (faultI ⟨op, 0, 0, k⟩ m)) ∧ Below w.heap.size w w' := by
  have e1 : skipB 0 = true := rfl
  have e2 : skipB 0 = true := rfl
  unfold insV
  simp only
  rcases h with rfl | rfl | rfl | rfl
  · have e3 : branchB 1 = false := rfl
    cases e4 : placeB k
    · have HF := hide (show faultI ⟨1, 0, 0, k⟩ m = 1 by unfold faultI; rw [if_neg (by simp [e1]), if_neg (by simp [e3]), if_pos (by simp [e4])])
      go_enter Try.func24, Try.ntmps24
      go_wp2_with (first
        | (go_at_call 38; refine (isPlace_any _ hk _).mono ?_; rw [e4]; rintro e w' ⟨rfl, rfl⟩)
        | (go_at_call 37; refine (isBranch_any _ _).mono ?_; rw [e3]; rintro e w' ⟨rfl, rfl⟩)
        | (go_at_call 36; refine (isSkip_any _ _).mono ?_; (first | rw [e1] | rw [e2]); rintro e w' ⟨rfl, rfl⟩))
      go_ret
      exact ⟨by rw [HF.out]; rfl, box_below _ _⟩
    · have HF := hide (show faultI ⟨1, 0, 0, k⟩ m = 0 by unfold faultI; rw [if_neg (by simp [e1]), if_neg (by simp [e3]), if_neg (by simp [e4, e3])])
      go_enter Try.func24, Try.ntmps24
      go_wp2_with (first
        | (go_at_call 38; refine (isPlace_any _ hk _).mono ?_; rw [e4]; rintro e w' ⟨rfl, rfl⟩)
        | (go_at_call 37; refine (isBranch_any _ _).mono ?_; rw [e3]; rintro e w' ⟨rfl, rfl⟩)
        | (go_at_call 36; refine (isSkip_any _ _).mono ?_; (first | rw [e1] | rw [e2]); rintro e w' ⟨rfl, rfl⟩))
      go_ret
      exact ⟨by rw [HF.out]; rfl, box_below _ _⟩
  · have e3 : branchB 2 = false := rfl
    have e4 : placeB k = placeB k := rfl
    have HF := hide (show faultI ⟨2, 0, 0, k⟩ m = 0 by unfold faultI; rw [if_neg (by simp [e1]), if_neg (by simp [e3]), if_neg (by simp [e3])])
    go_enter Try.func24, Try.ntmps24
    go_wp2_with (first
      | (go_at_call 38; refine (isPlace_any _ hk _).mono ?_; rw [e4]; rintro e w' ⟨rfl, rfl⟩)
      | (go_at_call 37; refine (isBranch_any _ _).mono ?_; rw [e3]; rintro e w' ⟨rfl, rfl⟩)
      | (go_at_call 36; refine (isSkip_any _ _).mono ?_; (first | rw [e1] | rw [e2]); rintro e w' ⟨rfl, rfl⟩))
    go_ret
    exact ⟨by rw [HF.out]; rfl, box_below _ _⟩
  · have e3 : branchB 3 = false := rfl
    have e4 : placeB k = placeB k := rfl
    by_cases h4 : m ≤ k
    · have HF := hide (show faultI ⟨3, 0, 0, k⟩ m = 1 by unfold faultI; rw [if_neg (by simp [e1]), if_neg (by simp [e3]), if_pos (by simp [h4])])
      go_enter Try.func24, Try.ntmps24
      go_wp2_with (first
        | (go_at_call 38; refine (isPlace_any _ hk _).mono ?_; rw [e4]; rintro e w' ⟨rfl, rfl⟩)
        | (go_at_call 37; refine (isBranch_any _ _).mono ?_; rw [e3]; rintro e w' ⟨rfl, rfl⟩)
        | (go_at_call 36; refine (isSkip_any _ _).mono ?_; (first | rw [e1] | rw [e2]); rintro e w' ⟨rfl, rfl⟩))
      go_ret
      exact ⟨by rw [HF.out]; rfl, box_below _ _⟩
    · have HF := hide (show faultI ⟨3, 0, 0, k⟩ m = 0 by unfold faultI; rw [if_neg (by simp [e1]), if_neg (by simp [e3]), if_neg (by simp [h4, e3])])
      go_enter Try.func24, Try.ntmps24
      go_wp2_with (first
        | (go_at_call 38; refine (isPlace_any _ hk _).mono ?_; rw [e4]; rintro e w' ⟨rfl, rfl⟩)
        | (go_at_call 37; refine (isBranch_any _ _).mono ?_; rw [e3]; rintro e w' ⟨rfl, rfl⟩)
        | (go_at_call 36; refine (isSkip_any _ _).mono ?_; (first | rw [e1] | rw [e2]); rintro e w' ⟨rfl, rfl⟩))
      go_ret
      exact ⟨by rw [HF.out]; rfl, box_below _ _⟩
  · have e3 : branchB 8 = false := rfl
    have e4 : placeB k = placeB k := rfl
    have HF := hide (show faultI ⟨8, 0, 0, k⟩ m = 0 by unfold faultI; rw [if_neg (by simp [e1]), if_neg (by simp [e3]), if_neg (by simp [e3])])
    go_enter Try.func24, Try.ntmps24
    go_wp2_with (first
      | (go_at_call 38; refine (isPlace_any _ hk _).mono ?_; rw [e4]; rintro e w' ⟨rfl, rfl⟩)
      | (go_at_call 37; refine (isBranch_any _ _).mono ?_; rw [e3]; rintro e w' ⟨rfl, rfl⟩)
      | (go_at_call 36; refine (isSkip_any _ _).mono ?_; (first | rw [e1] | rw [e2]); rintro e w' ⟨rfl, rfl⟩))
    go_ret
    exact ⟨by rw [HF.out]; rfl, box_below _ _⟩

theorem checkInsn_d (op jt jf : Int) (k : Nat) (m : Nat) (w : World) (h4 : 4 ≤ op) (h7 : op ≤ 7) (e1 : skipB jt = true) (e2 : skipB jf = true) : Calls Try.prog 24 #[insV ⟨op, jt, jf, k⟩, .int .i64 m] w fun e w' => e = .returned (errV (faultI ⟨op, jt, jf, k⟩ m)) ∧ Below w.heap.size w w' := by
  have e3 : branchB op = true := by unfold branchB; simp [h4, h7]
  have d1 : (op == 1) = false := by rw [beq_eq_false_iff_ne]; omega
  have d3 : (op == 3) = false := by rw [beq_eq_false_iff_ne]; omega
  have f1 : ¬ op < 1 := by omega
  have f2 : ¬ 8 < op := by omega
  have HG := hide (show faultI ⟨op, jt, jf, k⟩ m = if decide ((m : Int) ≤ jt) || decide ((m : Int) ≤ jf) then 1 else 0 by
    unfold faultI
    rw [if_neg (by simp [f1, f2, e1, e2]), if_neg (by simp [e3])]
    simp only [d1, d3, e3, Bool.false_and, Bool.true_and, Bool.false_or])
  clear h4 h7
  unfold insV
  simp only
  by_cases c1 : (m : Int) ≤ jt
  · have HF := hide (show faultI ⟨op, jt, jf, k⟩ m = 1 by rw [HG.out, if_pos (by simp [c1])])
    go_enter Try.func24, Try.ntmps24
    go_wp2_with (first
      | (go_at_call 37; refine (isBranch_any _ _).mono ?_; rw [e3]; rintro e w' ⟨rfl, rfl⟩)
      | (go_at_call 36; refine (isSkip_any _ _).mono ?_; (first | rw [e1] | rw [e2]); rintro e w' ⟨rfl, rfl⟩))
    go_ret
    exact ⟨by rw [HF.out]; rfl, box_below _ _⟩
  by_cases c2 : (m : Int) ≤ jf
  · have HF := hide (show faultI ⟨op, jt, jf, k⟩ m = 1 by rw [HG.out, if_pos (by simp [c2])])
    go_enter Try.func24, Try.ntmps24
    go_wp2_with (first
      | (go_at_call 37; refine (isBranch_any _ _).mono ?_; rw [e3]; rintro e w' ⟨rfl, rfl⟩)
      | (go_at_call 36; refine (isSkip_any _ _).mono ?_; (first | rw [e1] | rw [e2]); rintro e w' ⟨rfl, rfl⟩))
    go_ret
    exact ⟨by rw [HF.out]; rfl, box_below _ _⟩
  · have HF := hide (show faultI ⟨op, jt, jf, k⟩ m = 0 by rw [HG.out, if_neg (by simp [c1, c2])])
    go_enter Try.func24, Try.ntmps24
    go_wp2_with (first
      | (go_at_call 37; refine (isBranch_any _ _).mono ?_; rw [e3]; rintro e w' ⟨rfl, rfl⟩)
      | (go_at_call 36; refine (isSkip_any _ _).mono ?_; (first | rw [e1] | rw [e2]); rintro e w' ⟨rfl, rfl⟩))
    go_ret
    exact ⟨by rw [HF.out]; rfl, box_below _ _⟩

theorem checkInsn_any (x : IN) (hx : InOk x) (m : Nat) (hm : m ≤ 4096) (w : World) : Calls Try.prog 24 #[insV x, .int .i64 m] w fun e w' => e = .returned (errV (faultI x m)) ∧ Below w.heap.size w w' := by
  obtain ⟨op, jt, jf, k⟩ := x
  have hk : k < 4294967296 := hx.k2
  by_cases h : op < 1 ∨ 8 < op ∨ skipB jt = false ∨ skipB jf = false
  · exact checkInsn_a op jt jf k m w h
  rw [not_or, not_or, not_or, Bool.not_eq_false, Bool.not_eq_false] at h
  obtain ⟨d1, d2, e1, e2⟩ := h
  cases e3 : branchB op with
  | true =>
    have e5 := e3
    unfold branchB at e5
    rw [Bool.and_eq_true, decide_eq_true_eq, decide_eq_true_eq] at e5
    exact checkInsn_d op jt jf k m w e5.1 e5.2 e1 e2
  | false =>
    by_cases h0 : jt ≠ 0 ∨ jf ≠ 0
    · exact checkInsn_b op jt jf k m w d1 d2 e1 e2 e3 h0
    · obtain ⟨rfl, rfl⟩ : jt = 0 ∧ jf = 0 := by omega
      unfold branchB at e3
      rw [Bool.and_eq_false_iff, decide_eq_false_iff_not, decide_eq_false_iff_not] at e3
      exact checkInsn_c op k hk m hm w (by omega)
end Go.Proofs.Ytphkhfeofoadcab.Bp
