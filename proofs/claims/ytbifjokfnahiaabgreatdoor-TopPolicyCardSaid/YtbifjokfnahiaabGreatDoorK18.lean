/- strings.Split at one byte. -/
import Derived.Test.YtbifjokfnahiaabGreatDoorPReadCond
import Derived.Lib.SplitLaws
import Derived.Lib.IndexBytes
import Derived.Deep.AppendLies
import Derived.Lib.SmallJoins
import Derived.Deep.RegionLaw
namespace Go.Proofs.YtbifjokfnahiaabGreatDoor
open Go.RowKit Go.Sort

theorem indexByte_no (c : UInt8) : ∀ l : W8, c ∉ l → Lib.indexByte l c = -1
  | l, h => by
    cases hi : Lib.indexByte l c with
    | ofNat i =>
      have := (indexByte_split l c i hi)
      exact absurd (by rw [this.2]; simp) h
    | negSucc i =>
      have := Lib.index_ge l [c]
      rw [Lib.index_one, hi] at this
      omega
theorem splitK_C (c : UInt8) : ∀ (k : Nat) (l : W8), l.count c ≤ k → Lib.splitK [c] 0 k l = splitC c l
  | 0, l, h => by
    rw [splitC_self c l (List.count_eq_zero.1 (by omega))]
    rfl
  | k + 1, l, h => by
    by_cases hm : c ∈ l
    · obtain ⟨a, b, rfl, ha⟩ := List.eq_append_cons_of_mem hm
      have hix : Lib.index (a ++ c :: b) [c] = a.length := by rw [Lib.index_one, indexByte_app c b a ha]
      rw [Lib.splitK, hix, if_neg (by simp), splitC_app c b a ha]
      have e1 : (a ++ c :: b).take ((a.length : Int).toNat + 0) = a := by simp
      have e2 : (a ++ c :: b).drop ((a.length : Int).toNat + [c].length) = b := by simp [List.drop_append]
      rw [e1, e2, splitK_C c k b (by
        rw [List.count_append, List.count_cons_self] at h
        omega)]
    · have hix : Lib.index l [c] = -1 := by rw [Lib.index_one, indexByte_no c l hm]
      rw [Lib.splitK, hix, if_pos (by rfl), splitC_self c l hm]
theorem splitB_C (s : ByteArray) (c : UInt8) : (Lib.splitB ⟨#[c]⟩ 0 (Lib.countB s ⟨#[c]⟩) s) = (splitC c s.data.toList).map bs := by
  have h := Lib.splitB_data ⟨#[c]⟩ 0 (Lib.countB s ⟨#[c]⟩) s
  rw [show (⟨#[c]⟩ : ByteArray).data.toList = [c] from rfl, splitK_C c _ _ (by
    show s.data.toList.count c ≤ Lib.count s.data.toList [c]
    rw [Lib.count_one]
    exact Nat.le_refl _)] at h
  rw [← h, List.map_map]
  conv => lhs; rw [← List.map_id (Lib.splitB ⟨#[c]⟩ 0 (Lib.countB s ⟨#[c]⟩) s)]
  exact List.map_congr_left fun x _ => (bs_of x).symm
/-- The strings' cells. -/
def strsC (ws : List W8) : Array Value := (ws.map fun x => Value.string (bs x)).toArray
theorem split_any1 (s : ByteArray) (c : UInt8) (hs : s.size ≤ 9000) (w : World) (hE : EV w) : Calls Tryz.prog 24 #[.string s, .string ⟨#[c]⟩] w fun e w' => e = .returned (.slice (some ⟨w.heap.size, 0, none⟩) (splitC c s.data.toList).length (splitC c s.data.toList).length) ∧ w' = w.alloc (.cells (strsC (splitC c s.data.toList)) 9) := by
  obtain ⟨m, hm⟩ := hE.maxl
  refine (Tryz.strings_Split s ⟨#[c]⟩ m w (by omega) hm (Nat.le_refl 1)).mono ?_
  rintro e w' ⟨rfl, rfl⟩
  have hl : Lib.countB s ⟨#[c]⟩ + 1 = (splitC c s.data.toList).length := by
    have := Lib.splitB_all ⟨#[c]⟩ (Nat.le_refl 1) 0 _ s rfl
    rw [splitB_C, List.length_map] at this
    exact this.symm
  rw [splitB_C, hl, List.map_map]
  exact ⟨rfl, rfl⟩
theorem split_small {c : UInt8} {l : W8} {n : Nat} (h : l.length ≤ n) : ∀ x ∈ splitC c l, x.length ≤ n := by
  have key : ∀ l : W8, ∀ x ∈ splitC c l, x.length ≤ l.length := by
    intro l
    induction l with
    | nil => intro x hx; simp [splitC] at hx; simp [hx]
    | cons y r ih =>
      intro x hx
      unfold splitC at hx
      split at hx
      · rcases List.mem_cons.1 hx with rfl | hx
        · simp
        · have := ih x hx; simp; omega
      · split at hx
        · rw [List.mem_singleton] at hx; subst hx; simp
        · rename_i p t he
          rcases List.mem_cons.1 hx with rfl | hx
          · have := ih p (by rw [he]; simp); simp; omega
          · have := ih x (by rw [he]; simp [hx]); simp; omega
  intro x hx
  exact Nat.le_trans (key l x hx) h
theorem split_len {c : UInt8} : ∀ l : W8, (splitC c l).length ≤ l.length + 1
  | [] => by simp [splitC]
  | y :: r => by
    have ih := split_len (c := c) r
    unfold splitC
    split
    · simp; omega
    · split
      · simp
      · rename_i p t he
        rw [he] at ih
        simp at ih ⊢
        omega
end Go.Proofs.YtbifjokfnahiaabGreatDoor

/- readRule. -/
namespace Go.Proofs.YtbifjokfnahiaabGreatDoor
open Go.RowKit Go.Sort

theorem numU_lt (x : W8) : numU x < 18446744073709551616 := by
  have key : ∀ (l : W8) (acc u : Nat), acc < 18446744073709551616 → Lib.parseUintM (2 ^ 64 - 1) acc l = .ok u → u < 18446744073709551616 := by
    intro l
    induction l with
    | nil =>
      intro acc u h1 h2
      simp only [Lib.parseUintM, Lib.NumEnd.ok.injEq] at h2
      omega
    | cons c r ih =>
      intro acc u h1 h2
      rw [Lib.parseUintM] at h2
      split at h2
      · split at h2
        · cases h2
        · split at h2
          · cases h2
          · exact ih _ u (by omega) h2
      · cases h2
  unfold numU
  cases h : Lib.parseUintB 64 x with
  | ok u =>
    unfold Lib.parseUintB at h
    split at h
    · cases h
    · exact key x 0 u (by omega) h
  | «syntax» => simp
  | range => simp
theorem toI_ok (n : Nat) : I64 (toI n) := by
  unfold I64 toI
  rw [IntKind.wrap_i64]
  omega
theorem findOp_le (x : W8) : findOp x ≤ 9 := by
  unfold findOp
  cases h : signW.findIdx? (· == x) with
  | none => simp
  | some i =>
    have := (find_some h).2
    simp [signW] at this ⊢
    omega
theorem netRead_ok (x : W8) : NtOk (netRead x) := by
  unfold netRead
  cases h : parseR x with
  | none => exact noNet_ok
  | some p =>
    obtain ⟨ip, b, lo, hi⟩ := p
    obtain ⟨hip, hf, _⟩ := parse_some h
    have hk := fault_ok hf
    exact ⟨hip, i64_nat (by omega), i64_nat (by omega), i64_nat (by omega)⟩
theorem readCond_ok (ws : List W8) : CdOk (readCond ws).1 := by
  have ho := findOp_le (ws.tail.headD [])
  unfold readCond
  simp only
  split
  · exact ⟨toI_ok _, i64_nat (by omega), by simp, by simp, noNet_ok⟩
  · split
    · exact ⟨toI_ok _, i64_nat (by omega), by simp, by simp, netRead_ok _⟩
    · split
      · exact ⟨toI_ok _, i64_nat (by omega), numU_lt _, numU_lt _, noNet_ok⟩
      · exact ⟨toI_ok _, i64_nat (by omega), numU_lt _, by simp, noNet_ok⟩
theorem readAct_ok (ws : List W8) : AcOk (readAct ws).1 := by
  unfold readAct
  split
  · exact ⟨i64_nat (k := 1) (by omega), i64_nat (k := 0) (by omega)⟩
  · split
    · exact ⟨i64_nat (k := 3) (by omega), i64_nat (k := 0) (by omega)⟩
    · split
      · exact ⟨i64_nat (k := 2) (by omega), toI_ok _⟩
      · exact ⟨i64_nat (k := 0) (by omega), i64_nat (k := 0) (by omega)⟩
theorem findCall_ok (x : W8) : I64 (findCall x) := by
  by_cases h : findCall x < 0
  · unfold findCall at h ⊢
    cases hf : nameW.findIdx? (· == x) with
    | none => unfold I64; simp
    | some i => rw [hf] at h; simp at h; omega
  · exact i64_small (by omega) (by have := (call_some h).2; omega)

/-- The cells of conds. -/
def flatC (cs : List CD) : List Value := cs.flatMap fun c => (condC c).toList
theorem flatC_len : ∀ cs : List CD, (flatC cs).length = cs.length * 9
  | [] => rfl
  | c :: r => by
    have := flatC_len r
    simp only [flatC, List.flatMap_cons, List.length_append, List.length_cons] at this ⊢
    rw [this, show (condC c).toList.length = 9 from rfl]
    omega
theorem flatC_snoc (cs : List CD) (c : CD) : flatC (cs ++ [c]) = flatC cs ++ (condC c).toList := by simp [flatC]
theorem flatC_get : ∀ (cs : List CD) (i : Nat) (c : CD) (j : Nat), cs[i]? = some c → j < 9 → (flatC cs)[i * 9 + j]? = (condC c).toList[j]?
  | [], i, c, j, h, _ => by simp at h
  | x :: r, 0, c, j, h, hj => by
    simp only [List.getElem?_cons_zero, Option.some.injEq] at h
    subst h
    simp only [flatC, List.flatMap_cons]
    rw [List.getElem?_append_left (by rw [show (condC x).toList.length = 9 from rfl]; omega)]
    congr 1
    omega
  | x :: r, i + 1, c, j, h, hj => by
    rw [List.getElem?_cons_succ] at h
    have ih := flatC_get r i c j h hj
    simp only [flatC, List.flatMap_cons] at ih ⊢
    rw [List.getElem?_append_right (by rw [show (condC x).toList.length = 9 from rfl]; omega), show (condC x).toList.length = 9 from rfl, show (i + 1) * 9 + j - 9 = i * 9 + j by omega]
    exact ih
theorem conds_owned {W : World} {base : Nat} {v : Value} {cs : List CD} (h : W.ownsRow base 60 9 v cs.length (flatC cs)) (hok : ∀ c ∈ cs, CdOk c) : ∃ oa cap, v = .slice oa cs.length cap ∧ cs.length ≤ cap ∧ cap ≤ maxLen ∧ IsConds oa cs W ∧ ∀ b off, oa = some ⟨b, off, none⟩ → base ≤ b ∧ b < W.heap.size := by
  have h' := h
  rcases h.2 with ⟨rfl, hn⟩ | ⟨g, cap, cur, rfl, hb, hg, h1, h2, h3, h4⟩
  · refine ⟨none, 0, by rw [hn], by omega, by unfold maxLen; omega, ⟨fun h0 => by omega⟩, fun b off e => by cases e⟩
  · refine ⟨_, cap, rfl, h1, h2, ⟨fun h0 => ⟨g, 0, rfl, (h'.lt g rfl).2, fun i c hc => ?_⟩⟩, fun b off e => by
      simp only [Option.some.injEq, Addr.mk.injEq] at e
      have := (h'.lt g rfl).2
      omega⟩
    have hcell : ∀ j u, j < 9 → (condC c).toList[j]? = some u → W.cell? ⟨g, 0 + i * 9 + j, none⟩ = some u := fun j u hj hu => by
      have h5 := h'.cells (g := g) rfl (i * 9 + j) u (by rw [flatC_get cs i c j hc hj]; exact hu)
      rwa [show (⟨g, 0, none⟩ : Addr).add (i * 9 + j) = ⟨g, 0 + i * 9 + j, none⟩ by unfold Addr.add; split <;> simp_all] at h5
    exact ⟨hcell 0 _ (by omega) rfl, hcell 1 _ (by omega) rfl, hcell 2 _ (by omega) rfl, hcell 3 _ (by omega) rfl, hcell 4 _ (by omega) rfl, hcell 5 _ (by omega) rfl, hcell 6 _ (by omega) rfl, hcell 7 _ (by omega) rfl, hcell 8 _ (by omega) rfl, hok c (List.mem_of_getElem? hc)⟩
theorem info_cond : ∃ i, Tryz.prog.info? 60 = some i ∧ i.zero = some (.agg (condC zeroCD)) ∧ i.size = 9 ∧ i.bytes = 80 := by
  have hz : (Tryz.prog.info? 60).map (·.zero) = some (some (.agg (condC zeroCD))) := by kernel_rfl
  have hs : (Tryz.prog.info? 60).map (·.size) = some 9 := by kernel_rfl
  have hb : (Tryz.prog.info? 60).map (·.bytes) = some 80 := by kernel_rfl
  cases hq : Tryz.prog.info? 60 with
  | none => rw [hq] at hs; simp at hs
  | some i =>
    rw [hq] at hz hs hb
    simp at hz hs hb
    exact ⟨i, rfl, hz, hs, hb⟩
theorem size_rule : (Tryz.prog.info? 56).map (·.size) = some 4 := by kernel_rfl

def ruleC (nr : Int) (sv : Value) (a : ACT) : Array Value := #[.int .i64 nr, sv, .int .i64 a.kind, .int .i64 a.errno]
/-- The world in the midst of readRule. -/
structure RX (w : World) (g B r1 r4 : Nat) (ws : List W8) (nr : Int) (cs : List CD) (a : ACT) (sv : Value) (X : World) : Prop where
  words : IsWords X g B ws
  below : Below w.heap.size w X
  res : X.heap[r1]? = some (.cells (ruleC 0 (.slice none 0 0) ⟨0, 0⟩) 56 (0, 0))
  row : X.heap[r4]? = some (.cells (ruleC nr sv a) 56 (0, 0))
  own : X.ownsRow (r4 + 1) 60 9 sv cs.length (flatC cs)
  le : w.heap.size ≤ r1 ∧ r1 < g ∧ g < B ∧ B ≤ r4 ∧ 7 ≤ g
  ev : EV X
theorem But.grown {g : Nat} {w w' : World} (h : But g w w') : w.grownBy w' (some g) := ⟨h.os, h.tape, h.output, h.size, fun k hk hn => h.block k hk (fun e => hn (by rw [e]))⟩
theorem RX.step {w : World} {g B r1 r4 : Nat} {ws ws' : List W8} {nr : Int} {cs : List CD} {a : ACT} {sv : Value} {X Y : World} (h : RX w g B r1 r4 ws nr cs a sv X) (hY : IsWords Y g B ws') (hb : But g X Y) : RX w g B r1 r4 ws' nr cs a sv Y := by
  have h1 := (Array.getElem?_eq_some_iff.1 h.res).1
  have h2 := (Array.getElem?_eq_some_iff.1 h.row).1
  have hl := h.le
  have hs := h.below.size
  refine ⟨hY, hb.below h.below (by omega) hs, (hb.block r1 h1 (by omega)).trans h.res, (hb.block r4 h2 (by omega)).trans h.row, h.own.kept hb.grown ?_, h.le, h.ev.but hl.2.2.2.2 hb⟩
  by_cases he : sv.ownBlock = some g
  · have := (h.own.lt g he).1
    omega
  · exact .inr he
end Go.Proofs.YtbifjokfnahiaabGreatDoor

/- readRule: the walk. -/
namespace Go.Proofs.YtbifjokfnahiaabGreatDoor
open Go.RowKit Go.Sort

theorem RX.on {w : World} {g B r1 r4 : Nat} {ws : List W8} {nr : Int} {cs : List CD} {a : ACT} {sv : Value} {X Y : World} (h : RX w g B r1 r4 ws nr cs a sv X) (hb : Below X.heap.size X Y) : RX w g B r1 r4 ws nr cs a sv Y := h.step (h.words.on hb) (But.of hb)
theorem RX.cell {w : World} {g B r1 r4 : Nat} {ws : List W8} {nr : Int} {cs : List CD} {a : ACT} {sv : Value} {X : World} (h : RX w g B r1 r4 ws nr cs a sv X) (j : Nat) : X.cell? ⟨r4, j, none⟩ = (ruleC nr sv a)[j]? := cell_of_row _ _ j _ _ _ h.row
theorem RX.fro {w : World} {g B r1 r4 : Nat} {ws : List W8} {nr : Int} {cs : List CD} {a : ACT} {sv : Value} {X : World} (h : RX w g B r1 r4 ws nr cs a sv X) (j : Nat) : X.frozen? ⟨r4, j, none⟩ = false := frozen_of_row _ _ j _ _ h.row
/-- Where the words' slice lies. -/
theorem words_len {X : World} {g B : Nat} {ws : List W8} (h : IsWords X g B ws) : ∃ oa cap, X.cell? ⟨g, 0, none⟩ = some (.slice oa ws.length cap) ∧ ws.length ≤ 9223372036854775807 := by
  obtain ⟨oa, cap, h1, h2, h3, _⟩ := h.ex
  unfold maxLen at h3
  exact ⟨oa, cap, h1, by omega⟩
/-- .. but for the conds' own row. -/
structure RX0 (w : World) (g B r1 r4 : Nat) (ws : List W8) (nr : Int) (a : ACT) (sv : Value) (X : World) : Prop where
  words : IsWords X g B ws
  below : Below w.heap.size w X
  res : X.heap[r1]? = some (.cells (ruleC 0 (.slice none 0 0) ⟨0, 0⟩) 56 (0, 0))
  row : X.heap[r4]? = some (.cells (ruleC nr sv a) 56 (0, 0))
  le : w.heap.size ≤ r1 ∧ r1 < g ∧ g < B ∧ B ≤ r4 ∧ 7 ≤ g
  ev : EV X
theorem RX.weak {w : World} {g B r1 r4 : Nat} {ws : List W8} {nr : Int} {cs : List CD} {a : ACT} {sv : Value} {X : World} (h : RX w g B r1 r4 ws nr cs a sv X) : RX0 w g B r1 r4 ws nr a sv X := ⟨h.words, h.below, h.res, h.row, h.le, h.ev⟩
theorem RX0.grown {w : World} {g B r1 r4 : Nat} {ws : List W8} {nr : Int} {a : ACT} {sv : Value} {X Y : World} {row : Option Nat} (h : RX0 w g B r1 r4 ws nr a sv X) (o : Obj) (hg : (X.alloc o).grownBy Y row) (hr : ∀ k, row = some k → r4 + 1 ≤ k) : RX0 w g B r1 r4 ws nr a sv Y := by
  have h4 := (Array.getElem?_eq_some_iff.1 h.row).1
  have hl := h.le
  have hb : ∀ k, k < X.heap.size → k ≤ r4 → Y.heap[k]? = X.heap[k]? := fun k hk hk4 => (hg.block k (by rw [World.size_alloc]; omega) (fun e => by have := hr k e.symm; omega)).trans ((box_below X o).block k hk)
  have hs : X.heap.size ≤ Y.heap.size := Nat.le_trans (box_below X o).size hg.size
  exact ⟨h.words.heap (Nat.le_trans h.words.le hs) fun k hk => hb k (Nat.lt_of_lt_of_le hk h.words.le) (by omega), h.below.trans ⟨hg.os, hg.tape, hg.output, hs, fun k hk => hb k (by have := h.below.size; omega) (by omega)⟩, (hb r1 (by omega) (by omega)).trans h.res, (hb r4 h4 (by omega)).trans h.row, h.le, h.ev.heap fun k hk => hb k (by have := h.ev.lt; omega) (by omega)⟩
/-- The row written anew, with other words or conds. -/
theorem RX0.set {w : World} {g B r1 r4 : Nat} {ws : List W8} {nr nr' : Int} {a : ACT} {sv sv' : Value} {X : World} (h : RX0 w g B r1 r4 ws nr a sv X) (j : Nat) (v : Value) (hc : (ruleC nr sv a).setIfInBounds j v = ruleC nr' sv' a) (cs' : List CD) (ho : X.ownsRow (r4 + 1) 60 9 sv' cs'.length (flatC cs')) :
    RX w g B r1 r4 ws nr' cs' a sv' (X.setCell ⟨r4, j, none⟩ v) := by
  have hl := h.le
  rw [setCell_eq_setRow _ _ j _ _ _ _ h.row, hc]
  have hs := h.below.size
  have hb4 : But r4 X (X.setRow r4 (ruleC nr' sv' a)) := ⟨rfl, rfl, rfl, by rw [row_size]; exact Nat.le_refl _, fun k _ hn => row_heap X r4 k _ hn⟩
  refine ⟨h.words.row (by omega) _, hb4.below h.below (by omega) hs, (setRow_other _ _ _ _ (by omega)).trans h.res, setRow_heap _ _ _ _ _ _ h.row, ho.kept hb4.grown ?_, h.le, h.ev.heap fun k hk => row_heap X r4 k _ (by omega)⟩
  by_cases he : sv'.ownBlock = some r4
  · have := (ho.lt r4 he).1
    omega
  · exact .inr he
theorem RX.done {w : World} {g B r1 r4 : Nat} {ws : List W8} {nr : Int} {cs : List CD} {a : ACT} {sv : Value} {X : World} (h : RX w g B r1 r4 ws nr cs a sv X) (v : Array Value) : Below w.heap.size w (X.setRow r1 v) ∧ (X.setRow r1 v).ownsRow (r4 + 1) 60 9 sv cs.length (flatC cs) := by
  have hl := h.le
  have hs := h.below.size
  have hb1 : But r1 X (X.setRow r1 v) := ⟨rfl, rfl, rfl, by rw [row_size]; exact Nat.le_refl _, fun k _ hn => row_heap X r1 k _ hn⟩
  refine ⟨hb1.below h.below (by omega) hs, h.own.kept hb1.grown ?_⟩
  by_cases he : sv.ownBlock = some r1
  · have := (h.own.lt r1 he).1
    omega
  · exact .inr he
/-- Words cut just now. -/
theorem words_new (V : World) (ws : List W8) (hs : ∀ x ∈ ws, x.length ≤ 9000) (hl : ws.length ≤ 9001) : IsWords ((V.alloc (.cells (strsC ws) 9)).alloc (.cells #[.slice (some ⟨V.heap.size, 0, none⟩) ws.length ws.length] 80)) (V.heap.size + 1) (V.heap.size + 2) ws := by
  have h1 := World.cell?_alloc_new (V.alloc (.cells (strsC ws) 9)) #[.slice (some ⟨V.heap.size, 0, none⟩) ws.length ws.length] 80 0
  rw [World.size_alloc] at h1
  refine ⟨⟨_, ws.length, h1, Nat.le_refl _, by unfold maxLen; omega, fun h0 => ⟨V.heap.size, 0, rfl, by omega, by omega, fun i x hi => ?_⟩⟩, ?_, by omega, by rw [World.size_alloc, World.size_alloc]; omega, hs⟩
  · refine keep_cell (box_below _ _) ?_
    rw [World.cell?_alloc_new]
    unfold strsC
    simp [hi]
  · have h2 := World.frozen?_alloc_new (V.alloc (.cells (strsC ws) 9)) #[.slice (some ⟨V.heap.size, 0, none⟩) ws.length ws.length] 80 0
    rwa [World.size_alloc] at h2
theorem RX.start {w V X : World} {ws : List W8} (a : ACT) (g : Nat) (hgV : g = w.heap.size + 2) (hVb : Below w.heap.size w V) (hVh : V.heap[w.heap.size]? = some (.cells (ruleC 0 (.slice none 0 0) ⟨0, 0⟩) 56 (0, 0))) (hVs : w.heap.size + 3 ≤ V.heap.size) (hEV : EV V) (h7 : 7 ≤ w.heap.size)
    (hX : IsWords X g (g + 1) ws) (hXb : But g V X) : RX w g (g + 1) w.heap.size X.heap.size ws 0 [] a (.slice none 0 0) (X.alloc (.cells (ruleC 0 (.slice none 0 0) a) 56)) := by
  have hs := hXb.size
  refine ⟨hX.on (box_below _ _), (hXb.below hVb (by omega) (by omega)).alloc (by omega) _, (((box_below X _).block w.heap.size (by omega)).trans (hXb.block w.heap.size (by omega) (by omega))).trans hVh, heap_alloc_new _ _, World.ownsRow_nil _ _ _ _, ⟨Nat.le_refl _, by omega, by omega, by omega, by omega⟩, (hEV.but (by omega) hXb).on (box_below _ _)⟩

theorem readConds_fuel : ∀ (n m : Nat) (l : List W8), l.length ≤ n → l.length ≤ m → readConds n l = readConds m l
  | 0, m, l, hn, _ => by
    rw [List.length_eq_zero_iff.1 (show l.length = 0 by omega)]
    cases m <;> simp [readConds]
  | n + 1, 0, l, _, hm => by
    rw [List.length_eq_zero_iff.1 (show l.length = 0 by omega)]
    simp [readConds]
  | n + 1, m + 1, l, hn, hm => by
    rw [readConds, readConds]
    by_cases h : l = []
    · rw [if_pos h, if_pos h]
    · have hp := List.length_pos_iff.2 h
      have hl := readCond_le l.tail
      rw [List.length_tail] at hl
      rw [if_neg h, if_neg h, readConds_fuel n m _ (by omega) (by omega)]
theorem readConds_step {l : List W8} (h : l ≠ []) : readConds l.length l = (readCond l.tail).1 :: readConds (readCond l.tail).2.length (readCond l.tail).2 := by
  have hp := List.length_pos_iff.2 h
  have hl := readCond_le l.tail
  rw [List.length_tail] at hl
  obtain ⟨n, hn⟩ : ∃ n, l.length = n + 1 := ⟨l.length - 1, by omega⟩
  rw [hn, readConds, if_neg h, readConds_fuel n _ _ (by omega) (Nat.le_refl _)]
theorem readAct_le (l : List W8) : (readAct l).2.length ≤ l.length := by
  unfold readAct
  split
  · simp
  · split
    · simp
    · split
      · simp; omega
      · simp
/-- How many words are left. -/
def lenAt (g : Nat) (w : World) : Nat := match w.cell? ⟨g, 0, none⟩ with
  | some (.slice _ n _) => n
  | _ => 0
theorem lenAt_words {X : World} {g B : Nat} {ws : List W8} (h : IsWords X g B ws) : lenAt g X = ws.length := by
  obtain ⟨oa, cap, h1, _⟩ := h.ex
  unfold lenAt
  rw [h1]

set_option maxHeartbeats 4000000 in
set_option maxRecDepth 100000 in
theorem readRule_any (line : W8) (hline : line.length ≤ 9000) (w : World) (hE : EV w) : Calls Tryz.prog 28 #[.string (bs line)] w fun e w' => (∃ oa cap, e = .returned (ruleV (readRule line) oa cap) ∧ (readRule line).conds.length ≤ cap ∧ cap ≤ maxLen ∧ IsConds oa (readRule line).conds w' ∧ ∀ b off, oa = some ⟨b, off, none⟩ → w.heap.size ≤ b ∧ b < w'.heap.size) ∧ Below w.heap.size w w' := by
  obtain ⟨ws, hws⟩ : ∃ ws, ws = splitC 32 line := ⟨_, rfl⟩
  have h7 := hE.lt
  obtain ⟨V0, hV0, hV0h, hV0b, hV0s⟩ : ∃ V, V = w.alloc (.cells #[.int .i64 0, .slice none 0 0, .int .i64 0, .int .i64 0] 56) ∧ V.heap[w.heap.size]? = some (.cells (ruleC 0 (.slice none 0 0) ⟨0, 0⟩) 56 (0, 0)) ∧ Below w.heap.size w V ∧ V.heap.size = w.heap.size + 1 := ⟨_, rfl, heap_alloc_new _ _, box_below _ _, by rw [World.size_alloc]⟩
  have HS := split_any1 (bs line) 32 (by rw [bs_size]; exact hline) V0 (hE.on hV0b)
  rw [bs_data, ← hws] at HS
  have hwl : ws.length ≤ 9001 := by rw [hws]; have := split_len (c := 32) line; omega
  have hwsm : ∀ x ∈ ws, x.length ≤ 9000 := by rw [hws]; exact split_small hline
  obtain ⟨q, hq⟩ : ∃ q, q = bs line := ⟨_, rfl⟩
  rw [← hq] at HS ⊢
  obtain ⟨V, hV, hVw, hVb, hVh, hVs, hVE⟩ : ∃ V, V = (V0.alloc (.cells (strsC ws) 9)).alloc (.cells #[.slice (some ⟨V0.heap.size, 0, none⟩) ws.length ws.length] 80) ∧ IsWords V (w.heap.size + 2) (w.heap.size + 3) ws ∧ Below w.heap.size w V ∧ V.heap[w.heap.size]? = some (.cells (ruleC 0 (.slice none 0 0) ⟨0, 0⟩) 56 (0, 0)) ∧ w.heap.size + 3 ≤ V.heap.size ∧ EV V := by
    have hb2 : Below V0.heap.size V0 ((V0.alloc (.cells (strsC ws) 9)).alloc (.cells #[.slice (some ⟨V0.heap.size, 0, none⟩) ws.length ws.length] 80)) := below_next (box_below _ _) (box_below _ _)
    refine ⟨_, rfl, ?_, below_next hV0b hb2, (hb2.block _ (by omega)).trans hV0h, by rw [World.size_alloc, World.size_alloc]; omega, (hE.on hV0b).on hb2⟩
    rw [show w.heap.size + 2 = V0.heap.size + 1 by omega, show w.heap.size + 3 = V0.heap.size + 2 by omega]
    exact words_new V0 ws hwsm hwl
  obtain ⟨g, hg⟩ : ∃ g, g = w.heap.size + 2 := ⟨_, rfl⟩
  rw [← hg, show w.heap.size + 3 = g + 1 by omega] at hVw
  have HA := readAct_any ws g (g + 1) (by omega) V hVw hVE
  have HGG := hide hg
  clear hg
  obtain ⟨n0, hn0⟩ : ∃ n, n = ws.length := ⟨_, rfl⟩
  obtain ⟨a, ha⟩ : ∃ a, a = (readAct ws).1 := ⟨_, rfl⟩
  obtain ⟨t1, ht1⟩ : ∃ a, a = (readAct ws).2 := ⟨_, rfl⟩
  rw [← ha, ← ht1] at HA
  have hl1 : t1.length ≤ 9001 := by rw [ht1]; exact Nat.le_trans (readAct_le ws) hwl
  obtain ⟨x1, hx1⟩ : ∃ x, x = t1.headD [] := ⟨_, rfl⟩
  obtain ⟨t2, ht2⟩ : ∃ x, x = t1.tail := ⟨_, rfl⟩
  obtain ⟨nr, hnr⟩ : ∃ x, x = findCall x1 := ⟨_, rfl⟩
  have HFC := findCall_any x1
  rw [← hnr] at HFC
  have HRR := hide (show readRule line = ⟨nr, readConds t2.length t2, a⟩ by unfold readRule; simp only; rw [← hws, ← ha, ← ht1, hnr, hx1, ht2])
  have HT2 := hide ht2
  have HL2 := hide (show t2.length ≤ 9001 by rw [ht2, List.length_tail]; omega)
  clear hl1
  have HX1 := hide hx1
  rw [← hn0] at HS hV
  clear hws hq hE ha ht1 hx1 ht2 hnr hline hn0 hwl hwsm
  go_enter Tryz.func28, Tryz.ntmps28
  go_wp2_with fail
  rw [show w.alloc (Obj.cells #[.int .i64 0, .slice none 0 0, .int .i64 0, .int .i64 0] 56) = V0 from hV0.symm]
  refine HS.mono ?_
  rintro e W1 ⟨rfl, rfl⟩
  clear HS hV0
  go_wp2_with fail
  rw [hV0s] at hV
  rw [show (V0.alloc (.cells (strsC ws) 9)).alloc (.cells #[.slice (some ⟨w.heap.size + 1, 0, none⟩) n0 n0] 80) = V from hV.symm, show w.heap.size + 1 + 1 = g by have := HGG.out; omega]
  refine HA.mono ?_
  rintro e X ⟨rfl, hX, hXb⟩
  clear hV HA
  obtain ⟨ak, ae⟩ := a
  unfold actV
  simp only
  go_wp2_with fail
  refine calls_forget (W0 := X.alloc (.cells #[.int .i64 0, .slice none 0 0, .int .i64 ak, .int .i64 ae] 56)) (RX w g (g + 1) w.heap.size X.heap.size t1 0 [] ⟨ak, ae⟩ (.slice none 0 0)) (RX.start ⟨ak, ae⟩ g HGG.out hVb hVh hVs hVE h7 hX hXb) ?_
  obtain ⟨r4, hr4⟩ : ∃ r, r = X.heap.size := ⟨_, rfl⟩
  rw [← hr4]
  clear hX hXb hr4 hVw hVb hVh hVs hVE hV0h hV0b hV0s
  intro Y hY
  have HC := hide hY
  clear hY
  refine (nextX HT2.out HX1.out g (g + 1) Y HC.out.words).mono ?_
  rintro e Y1 ⟨rfl, hw1, hw2⟩
  replace HC := hide (HC.out.step hw1 hw2)
  clear hw1 hw2
  go_wp2_with fail
  refine (HFC _).mono ?_
  rintro e Y2 ⟨rfl, hw1⟩
  replace HC := hide (HC.out.on hw1)
  clear hw1 HFC
  have cj := HC.out.cell 0
  have fj := HC.out.fro 0
  simp only [ruleC, List.getElem?_toArray, List.getElem?_cons_zero] at cj
  have HS := hide (HC.out.weak.set 0 (.int .i64 nr) (nr' := nr) (sv' := .slice none 0 0) (by rfl) [] (World.ownsRow_nil _ _ _ _))
  clear HC
  obtain ⟨oaG, capG, cG, hmG⟩ := words_len HS.out.words
  go_wp2
  go_loopw [12] (fun _ w' => ∃ (ws' : List W8) (cs : List CD) (sv : Value), Hid (RX w g (g + 1) w.heap.size r4 ws' nr cs ⟨ak, ae⟩ sv w') ∧ Hid (cs ++ readConds ws'.length ws' = readConds t2.length t2) ∧ Hid (cs.length + ws'.length ≤ 9001) ∧ Hid (∀ c ∈ cs, CdOk c)) (fun _ w' => lenAt g w')
  case atStart => exact ⟨t2, [], .slice none 0 0, HS, hide rfl, hide (by have := HL2.out; simpa using this), hide (fun c hc => by cases hc)⟩
  case round =>
    obtain ⟨ws', cs, sv, HC, HI, HLN, HOK⟩ := hrel
    clear cG hmG HS cj fj
    obtain ⟨oa, cap, cg, hmx⟩ := words_len HC.out.words
    have hlen := lenAt_words HC.out.words
    obtain ⟨n', hn'⟩ : ∃ n, n = ws'.length := ⟨_, rfl⟩
    rw [← hn'] at cg hmx hlen
    have HN := hide hn'
    clear hn'
    by_cases hz : n' = 0
    · subst hz
      have hw0 : ws' = [] := List.length_eq_zero_iff.1 HN.out.symm
      have HCS := hide (show readRule line = ⟨nr, cs, ⟨ak, ae⟩⟩ by
        rw [HRR.out]
        have := HI.out
        rw [hw0] at this
        simp only [List.length_nil, readConds, List.append_nil] at this
        rw [← this])
      have c0 := HC.out.cell 0
      have c1 := HC.out.cell 1
      have c2 := HC.out.cell 2
      have c3 := HC.out.cell 3
      simp only [ruleC, List.getElem?_toArray, List.getElem?_cons_zero, List.getElem?_cons_succ] at c0 c1 c2 c3
      obtain ⟨oc, cc, hsv, hcl, hcm, _, _⟩ := conds_owned HC.out.own HOK.out
      subst hsv
      have hres := HC.out.res
      obtain ⟨rc, hrc⟩ : ∃ rc : Array Value, rc = ruleC nr (.slice oc cs.length cc) ⟨ak, ae⟩ := ⟨_, rfl⟩
      have h1c : rc.all (·.oneCell') = true := by rw [hrc]; simp [ruleC, Value.oneCell']
      clear hw0
      go_wp2_with (refine wpList_store_row rfl 56 _ _ rfl w.heap.size rc rfl (by rw [hrc]; rfl) 56 _ hres (by rw [hrc]; exact size_rule) (by rw [hrc]; rfl) h1c ?_)
      refine bodyPost_ret (v := .agg rc) (results_cell_row rfl _ _ w.heap.size 56 rc (0, 0) _ rfl (setRow_heap _ _ _ _ _ _ hres) Tryz.underlying56 rfl (by rw [hrc]; exact size_rule)) rfl ⟨?_, (HC.out.done _).1⟩
      obtain ⟨oc', cc', hsv', _, _, hIC, hbs⟩ := conds_owned (HC.out.done rc).2 HOK.out
      simp only [Value.slice.injEq] at hsv'
      obtain ⟨rfl, _, rfl⟩ := hsv'
      rw [HCS.out]
      exact ⟨oc, cc, by rw [hrc]; rfl, hcl, hcm, hIC, fun b off e => by
        have h1 := hbs b off e
        have h2 := HC.out.le
        exact ⟨by omega, h1.2⟩⟩
    · have i1 : (0 : Int) < n' := by omega
      have hne : ws' ≠ [] := fun e => hz (by rw [HN.out, e]; rfl)
      have hst := readConds_step hne
      obtain ⟨t3, ht3⟩ : ∃ t, t = ws'.tail := ⟨_, rfl⟩
      obtain ⟨x3, hx3⟩ : ∃ x, x = ws'.headD [] := ⟨_, rfl⟩
      obtain ⟨c, hc⟩ : ∃ c, c = (readCond t3).1 := ⟨_, rfl⟩
      obtain ⟨t4, ht4⟩ : ∃ t, t = (readCond t3).2 := ⟨_, rfl⟩
      have HRD := fun X h1 h2 => readCond_any t3 g (g + 1) HC.out.le.2.2.2.2 X h1 h2
      rw [← hc, ← ht4] at HRD
      have hcok : CdOk c := by rw [hc]; exact readCond_ok t3
      have hl4 : t4.length + 1 ≤ n' := by
        have h1 := readCond_le t3
        rw [← ht4, ht3, List.length_tail] at h1
        have := HN.out
        omega
      rw [← ht3, ← hc, ← ht4] at hst
      have HI2 := hide (show (cs ++ [c]) ++ readConds t4.length t4 = readConds t2.length t2 by rw [← HI.out, hst, List.append_assoc]; rfl)
      have HLN2 := hide (show (cs ++ [c]).length + t4.length ≤ 9001 by have h1 := HLN.out; have h2 := HN.out; rw [List.length_append, List.length_singleton]; omega)
      have HOK2 := hide (show ∀ y ∈ cs ++ [c], CdOk y from fun y hy => by
        rcases List.mem_append.1 hy with h | h
        · exact HOK.out y h
        · rw [List.mem_singleton] at h; rw [h]; exact hcok)
      have HT3 := hide ht3
      have HX3 := hide hx3
      have HL4 := hide hl4
      clear hst hc ht4 ht3 hx3 hcok hl4 hne HI HOK hz
      go_wp2_with fail
      refine (nextX HT3.out HX3.out g (g + 1) _ HC.out.words).mono ?_
      rintro e Y1 ⟨rfl, hw1, hw2⟩
      replace HC := hide ((HC.out.step hw1 hw2).on (Below.refl _ Y1).drew)
      clear hw1 hw2 cg
      obtain ⟨arg, op, v, m, gl, ⟨ip, bb, lo, hh⟩⟩ := c
      unfold condV at HRD
      simp only at HRD
      obtain ⟨inf, hi0, hz0, hz1, hz2⟩ := info_cond
      have cS := HC.out.cell 1
      simp only [ruleC, List.getElem?_toArray, List.getElem?_cons_zero, List.getElem?_cons_succ] at cS
      have hcl : cs.length ≤ 9001 := by have := HLN.out; omega
      go_wp2_with fail
      go_region_law
        (first
          | (go_simp; go_at_call 42; refine (HRD _ HC.out.words HC.out.ev).mono ?_; rintro e w1 ⟨rfl, hw1, hw2⟩; have HD := hide (HC.out.step hw1 hw2); have cD : w1.cell? ⟨r4, 1, none⟩ = some sv := HD.out.cell 1; have l4 : r4 < w1.heap.size := block_lt_of_cell cD; clear hw1 hw2)
          | (refine step_append_lies _ (by rfl) _ _ _ (by rfl) (r4 + 1) 60 inf _ 9 80 Tryz.underlying54 hi0 hz0 hz1 hz2 rfl (by omega) sv cs.length (flatC cs) (by rfl) (HD.out.own.alloc _)
                ⟨w1.heap.size, 0, none⟩ 1 1 [.int .i64 arg, .int .i64 op, .int .u64 v, .int .u64 m, .string gl, .int .u32 ip, .int .i64 bb, .int .i64 lo, .int .i64 hh] (by rfl) (by rfl) (World.news_of_block (cs := #[.int .i64 arg, .int .i64 op, .int .u64 v, .int .u64 m, .string gl, .int .u32 ip, .int .i64 bb, .int .i64 lo, .int .i64 hh]) (t := 60) (fr := (0, 0)) (heap_alloc_new w1 _)) (by simp [Value.oneCell'])
                (by omega) (by simp only [maxLen]; omega) (by omega) (by have := (Array.getElem?_eq_some_iff.1 HD.out.row).1; rw [World.size_alloc]; omega) (w1.heap.size + 1) (by simp) ?_; intro gg cap1 w2 hown1 hgrow hat hltt; have HW := hide (HD.out.weak.grown _ hgrow (fun k hk => (HD.out.own.lt k hk).1)); have HO := hide hown1; have cE : w2.cell? ⟨r4, 1, none⟩ = some sv := cell_of_row _ _ 1 _ _ _ HW.out.row; have fE : w2.frozen? ⟨r4, 1, none⟩ = false := frozen_of_row _ _ 1 _ _ HW.out.row; clear hown1 hgrow hat hltt))
      all_goals
        have HS2 := hide (HW.out.set 1 (.slice (some ⟨gg, 0, none⟩) (cs.length + 1) cap1) (nr' := nr) (sv' := .slice (some ⟨gg, 0, none⟩) (cs.length + 1) cap1) (by rfl) (cs ++ [⟨arg, op, v, m, gl, ⟨ip, bb, lo, hh⟩⟩]) (by rw [List.length_append, List.length_singleton, flatC_snoc]; exact HO.out))
        have hms : lenAt g (w2.setCell ⟨r4, 1, none⟩ (.slice (some ⟨gg, 0, none⟩) (cs.length + 1) cap1)) < lenAt g wr := by
          rw [lenAt_words HS2.out.words, hlen]
          have := HL4.out
          omega
        clear hlen cD cE fE l4 HO HW HD
        go_wp2
        go_round
        case rel => exact ⟨t4, _, _, HS2, HI2, HLN2, HOK2⟩
        case measure => exact hms
end Go.Proofs.YtbifjokfnahiaabGreatDoor
