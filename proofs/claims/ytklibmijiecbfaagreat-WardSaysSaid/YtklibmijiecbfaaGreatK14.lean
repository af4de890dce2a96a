/- A ward in memory: its block, cell by cell. -/
import Derived.Test.YtklibmijiecbfaaGreatK13
import Derived.Test.YtklibmijiecbfaaGreatK9
import Derived.Test.YtklibmijiecbfaaGreatK2
import Derived.Deep.MidRow
import Derived.Test.YtklibmijiecbfaaGreatK1
import Derived.LaidEql
import Derived.Lib.IfaceEq
import Derived.Stop.Asserts
import Derived.RowKitTokens
namespace Go.Proofs.YtklibmijiecbfaaGreat
open Go.RowKit Mm

structure PV where
 p : POL
 oa : Option Addr
 cap : Nat
 bd : Nat
def cellT (t : TH) (j : Nat) : Value :=
 if j = 0 then .int .i64 t.phase else if j = 1 then .int .u32 t.call.arch else if j = 2 then .int .u32 t.call.nr
 else if j < 7 then .int .u64 (regN t.call (j - 3)) else if j < 11 then .int .u64 (t.args (j - 7)) else if j < 15 then .bool (t.sld (j - 11))
 else if j = 15 then .int .i64 t.seen else if j = 16 then .string (bs t.read)
 else if (j - 17) % 3 = 0 then .string (t.vals ((j - 17) / 3)).path else if (j - 17) % 3 = 1 then .int .u32 (t.vals ((j - 17) / 3)).ip else .int .i64 (t.vals ((j - 17) / 3)).port
def cellW (P : PV) (gm : Nat) (T : Nat → TH) (lv : Value) (i : Nat) : Value :=
 if i = 0 then .slice P.oa P.p.rules.length P.cap else if i = 1 then .int .i64 P.p.els.kind else if i = 2 then .int .i64 P.p.els.errno
 else if i = 3 then .pointer (some ⟨gm, 0, none⟩) else if i < 91 then cellT (T ((i - 4) / 29)) ((i - 4) % 29) else lv
theorem cellW_T (P : PV) (gm : Nat) (T : Nat → TH) (lv : Value) (n j : Nat) (hn : n < 3) (hj : j < 29) : cellW P gm T lv (4 + n * 29 + j) = cellT (T n) j := by
 unfold cellW
 rw [if_neg (by omega), if_neg (by omega), if_neg (by omega), if_neg (by omega), if_pos (by omega), show (4 + n * 29 + j - 4) / 29 = n by omega, show (4 + n * 29 + j - 4) % 29 = j by omega]
theorem updW_T (P : PV) (gm : Nat) (T : Nat → TH) (lv : Value) (n : Nat) (hn : n < 3) (t : TH) (f : Nat → Value) (h1 : ∀ j, j < 29 → f (4 + n * 29 + j) = cellT t j) (h2 : ∀ i, (∀ j, j < 29 → i ≠ 4 + n * 29 + j) → f i = cellW P gm T lv i) : VA 92 f = VA 92 (cellW P gm (updF T n t) lv) := by
 refine VA_congr _ _ _ fun i hi => ?_
 by_cases hr : 4 + n * 29 ≤ i ∧ i < 4 + n * 29 + 29
 ·
  obtain ⟨j, hj, rfl⟩ : ∃ j, j < 29 ∧ i = 4 + n * 29 + j := ⟨i - (4 + n * 29), by omega, by omega⟩
  rw [h1 j hj, cellW_T _ _ _ _ _ _ hn hj, updF_same]
 ·
  rw [h2 i fun j hj => by omega]
  unfold cellW
  split
  ·
   rfl
  ·
   split
   ·
    rfl
   ·
    split
    ·
     rfl
    ·
     split
     ·
      rfl
     ·
      split
      ·
       rw [updF_other]
       omega
      ·
       rfl
theorem updW_one (P : PV) (gm : Nat) (T : Nat → TH) (lv : Value) (n j : Nat) (hn : n < 3) (hj : j < 29) (v : Value) (t : TH) (h : ∀ k, k < 29 → cellT t k = if k = j then v else cellT (T n) k) : VA 92 (updV (cellW P gm T lv) (4 + n * 29 + j) v) = VA 92 (cellW P gm (updF T n t) lv) :=
 updW_T P gm T lv n hn t _ (fun k hk => by
  unfold updV
  rw [h k hk]
  by_cases hkj : k = j
  ·
   rw [if_pos (by omega), if_pos hkj]
  ·
   rw [if_neg (by omega), if_neg hkj, cellW_T _ _ _ _ _ _ hn hk]) fun i hi => by
  unfold updV
  by_cases hij : i = 4 + n * 29 + j
  ·
   exact absurd hij (hi j hj)
  ·
   rw [if_neg hij]
def entA (kind thr : Int) (k : KL) (v : VS) (errno : Int) : Array Value := #[.int .i64 kind, .int .i64 thr, .int .u32 k.arch, .int .u32 k.nr, .int .u64 k.a0, .int .u64 k.a1, .int .u64 k.a2, .int .u64 k.a3,
 .string v.v0.path, .int .u32 v.v0.ip, .int .i64 v.v0.port, .string v.v1.path, .int .u32 v.v1.ip, .int .i64 v.v1.port, .string v.v2.path, .int .u32 v.v2.ip, .int .i64 v.v2.port, .string v.v3.path, .int .u32 v.v3.ip, .int .i64 v.v3.port, .int .i64 errno]
def entE (e : EN) : Array Value := entA e.kind e.thr e.call e.vals e.errno
def flatE (l : List EN) : List Value := l.flatMap fun e => (entE e).toList
theorem flatE_snoc (l : List EN) (e : EN) : flatE (l ++ [e]) = flatE l ++ (entE e).toList := by simp [flatE]
structure WX (g gm : Nat) (P : PV) (s : WS) (lv : Value) (W : World) : Prop where
 row : W.heap[g]? = some (.cells (VA 92 (cellW P gm s.T lv)) 79 (0, 0))
 mem : IsM gm s.mem W
 own : W.ownsRow 0 70 21 lv s.log.length (flatE s.log)
 ne : gm ≠ g
 nl : ∀ k, lv.ownBlock = some k → k ≠ g ∧ k ≠ gm
 bd : P.bd ≤ W.heap.size
 pol : ∀ V : World, (∀ k, k < P.bd → k ≠ g → k ≠ gm → lv.ownBlock ≠ some k → V.heap[k]? = W.heap[k]?) → P.bd ≤ V.heap.size → IsPol P.oa P.cap P.p V
structure Fr (g gm : Nat) (lv lv' : Value) (W V : World) : Prop where
 os : V.os = W.os
 tape : V.tape = W.tape
 output : V.output = W.output
 size : W.heap.size ≤ V.heap.size
 block : ∀ k, k < W.heap.size → k ≠ g → k ≠ gm → lv.ownBlock ≠ some k → V.heap[k]? = W.heap[k]?
 new : ∀ k, lv'.ownBlock = some k → lv.ownBlock = some k ∨ W.heap.size ≤ k
theorem Fr.refl (g gm : Nat) (lv : Value) (W : World) : Fr g gm lv lv W W := ⟨rfl, rfl, rfl, Nat.le_refl _, fun _ _ _ _ _ => rfl, fun _ h => .inl h⟩
theorem Fr.trans {g gm : Nat} {l1 l2 l3 : Value} {a b c : World} (h : Fr g gm l1 l2 a b) (k : Fr g gm l2 l3 b c) : Fr g gm l1 l3 a c :=
 ⟨k.os.trans h.os, k.tape.trans h.tape, k.output.trans h.output, Nat.le_trans h.size k.size, fun i hi h1 h2 h3 => (k.block i (Nat.lt_of_lt_of_le hi h.size) h1 h2 (fun e => by
  rcases h.new i e with h4 | h4
  ·
   exact h3 h4
  ·
   omega)).trans (h.block i hi h1 h2 h3), fun i hi => by
  rcases k.new i hi with h4 | h4
  ·
   exact h.new i h4
  ·
   exact .inr (Nat.le_trans h.size h4)⟩
theorem Fr.of {g gm : Nat} (lv : Value) {a b : World} (h : Below a.heap.size a b) : Fr g gm lv lv a b := ⟨h.os, h.tape, h.output, h.size, fun k hk _ _ _ => h.block k hk, fun _ h => .inl h⟩
theorem Fr.grown {g gm k0 : Nat} (lv : Value) {a b : World} (h : a.grownBy b (some k0)) (hk : k0 = g ∨ k0 = gm) : Fr g gm lv lv a b := ⟨h.os, h.tape, h.output, h.size, fun k hk1 h1 h2 _ => h.block k hk1 (fun e => by cases e; omega), fun _ h => .inl h⟩
theorem Fr.below {g gm B : Nat} {l1 l2 : Value} {w a b : World} (h : Fr g gm l1 l2 a b) (hb : Below B w a) (hB : B ≤ a.heap.size) (hg : B ≤ g) (hm : B ≤ gm) (hl : ∀ k, l1.ownBlock = some k → B ≤ k) : Below B w b := hb.trans ⟨h.os, h.tape, h.output, h.size, fun k hk => h.block k (by omega) (by omega) (by omega) (fun e => by have := hl k e; omega)⟩
theorem WX.glt {g gm : Nat} {P : PV} {s : WS} {lv : Value} {W : World} (h : WX g gm P s lv W) : g < W.heap.size := (Array.getElem?_eq_some_iff.1 h.row).1
theorem WX.mlt {g gm : Nat} {P : PV} {s : WS} {lv : Value} {W : World} (h : WX g gm P s lv W) : gm < W.heap.size := (Array.getElem?_eq_some_iff.1 h.mem).1
theorem WX.cell {g gm : Nat} {P : PV} {s : WS} {lv : Value} {W : World} (h : WX g gm P s lv W) (i : Nat) (hi : i < 92) : W.cell? ⟨g, i, none⟩ = some (cellW P gm s.T lv i) := by rw [cell_of_row _ _ i _ _ _ h.row]; exact VA_get _ _ _ hi
theorem WX.fro {g gm : Nat} {P : PV} {s : WS} {lv : Value} {W : World} (h : WX g gm P s lv W) (i : Nat) : W.frozen? ⟨g, i, none⟩ = false := frozen_of_row _ _ i _ _ h.row
theorem WX.th {g gm : Nat} {P : PV} {s : WS} {lv : Value} {W : World} (h : WX g gm P s lv W) (n j : Nat) (hn : n < 3) (hj : j < 29) : W.cell? ⟨g, 4 + n * 29 + j, none⟩ = some (cellT (s.T n) j) := by rw [h.cell _ (by omega), cellW_T _ _ _ _ _ _ hn hj]
theorem WX.phase {g gm : Nat} {P : PV} {s : WS} {lv : Value} {W : World} (h : WX g gm P s lv W) (n : Nat) (hn : n < 3) : W.cell? ⟨g, 4 + n * 29, none⟩ = some (.int .i64 (s.T n).phase) := h.th n 0 hn (by omega)
theorem WX.ptr {g gm : Nat} {P : PV} {s : WS} {lv : Value} {W : World} (h : WX g gm P s lv W) : W.cell? ⟨g, 3, none⟩ = some (.pointer (some ⟨gm, 0, none⟩)) := h.cell 3 (by omega)
theorem WX.logc {g gm : Nat} {P : PV} {s : WS} {lv : Value} {W : World} (h : WX g gm P s lv W) : W.cell? ⟨g, 91, none⟩ = some lv := h.cell 91 (by omega)
theorem cellT_call (t : TH) : cellT t 1 = .int .u32 t.call.arch ∧ cellT t 2 = .int .u32 t.call.nr ∧ cellT t 3 = .int .u64 t.call.a0 ∧ cellT t 4 = .int .u64 t.call.a1 ∧ cellT t 5 = .int .u64 t.call.a2 ∧ cellT t 6 = .int .u64 t.call.a3 := ⟨rfl, rfl, rfl, rfl, rfl, rfl⟩
theorem cellT_arg (t : TH) (i : Nat) (hi : i < 4) : cellT t (7 + i) = .int .u64 (t.args i) := by
 unfold cellT
 rw [if_neg (by omega), if_neg (by omega), if_neg (by omega), if_neg (by omega), if_pos (by omega), show 7 + i - 7 = i by omega]
theorem cellT_sld (t : TH) (i : Nat) (hi : i < 4) : cellT t (11 + i) = .bool (t.sld i) := by
 unfold cellT
 rw [if_neg (by omega), if_neg (by omega), if_neg (by omega), if_neg (by omega), if_neg (by omega), if_pos (by omega), show 11 + i - 11 = i by omega]
theorem cellT_val (t : TH) (i : Nat) : cellT t (17 + i * 3) = .string (t.vals i).path ∧ cellT t (17 + i * 3 + 1) = .int .u32 (t.vals i).ip ∧ cellT t (17 + i * 3 + 2) = .int .i64 (t.vals i).port := by
 unfold cellT
 refine ⟨?_, ?_, ?_⟩
 ·
  rw [if_neg (by omega), if_neg (by omega), if_neg (by omega), if_neg (by omega), if_neg (by omega), if_neg (by omega), if_neg (by omega), if_neg (by omega), if_pos (by omega), show (17 + i * 3 - 17) / 3 = i by omega]
 ·
  rw [if_neg (by omega), if_neg (by omega), if_neg (by omega), if_neg (by omega), if_neg (by omega), if_neg (by omega), if_neg (by omega), if_neg (by omega), if_neg (by omega), if_pos (by omega), show (17 + i * 3 + 1 - 17) / 3 = i by omega]
 ·
  rw [if_neg (by omega), if_neg (by omega), if_neg (by omega), if_neg (by omega), if_neg (by omega), if_neg (by omega), if_neg (by omega), if_neg (by omega), if_neg (by omega), if_neg (by omega), show (17 + i * 3 + 2 - 17) / 3 = i by omega]
theorem own_keep {W V : World} {base e size n : Nat} {v : Value} {xs : List Value} {k : Nat} (h : W.ownsRow base e size v n xs) (hg : W.grownBy V (some k)) (hne : v.ownBlock ≠ some k) : V.ownsRow base e size v n xs := h.kept hg (.inr hne)
theorem WX.on {g gm : Nat} {P : PV} {s : WS} {lv : Value} {W V : World} (h : WX g gm P s lv W) (hb : Below W.heap.size W V) : WX g gm P s lv V :=
 ⟨(hb.block g h.glt).trans h.row, h.mem.on hb, own_on h.own hb, h.ne, h.nl, Nat.le_trans h.bd hb.size, fun U hU hs => h.pol U (fun k hk h1 h2 h3 => (hU k hk h1 h2 h3).trans (hb.block k (Nat.lt_of_lt_of_le hk h.bd))) hs⟩
theorem WX.memo {g gm : Nat} {P : PV} {s : WS} {lv : Value} {W V : World} (h : WX g gm P s lv W) {m : MS} (hm : IsM gm m V) (hg : W.grownBy V (some gm)) : WX g gm P { s with mem := m } lv V :=
 ⟨(hg.block g h.glt (fun e => h.ne (Option.some.inj e).symm)).trans h.row, hm, own_keep h.own hg (fun e => (h.nl gm e).2 rfl), h.ne, h.nl, Nat.le_trans h.bd hg.size, fun U hU hs => h.pol U (fun k hk h1 h2 h3 => (hU k hk h1 h2 h3).trans (hg.block k (Nat.lt_of_lt_of_le hk h.bd) (fun e => h2 (Option.some.inj e)))) hs⟩
theorem setRow_grown (W : World) (g : Nat) (c : Array Value) : W.grownBy (W.setRow g c) (some g) := ⟨rfl, rfl, rfl, by rw [row_size]; exact Nat.le_refl _, fun k _ hn => row_heap W g k c (fun e => hn (by rw [e]))⟩
theorem WX.rows {g gm : Nat} {P : PV} {s : WS} {lv : Value} {W : World} (h : WX g gm P s lv W) (T : Nat → TH) {c : Array Value} (hc : c = VA 92 (cellW P gm T lv)) : WX g gm P { s with T := T } lv (W.setRow g c) := by
 have hg := setRow_grown W g c
 refine ⟨by rw [← hc]; exact setRow_heap _ _ _ _ _ _ h.row, (hg.block gm h.mlt (fun e => h.ne (Option.some.inj e))).trans h.mem, own_keep h.own hg (fun e => (h.nl g e).1 rfl), h.ne, h.nl, by rw [row_size]; exact h.bd, fun U hU hs => h.pol U (fun k hk h1 h2 h3 => (hU k hk h1 h2 h3).trans (row_heap W g k c h1)) hs⟩
theorem WX.setT {g gm : Nat} {P : PV} {s : WS} {lv : Value} {W : World} (h : WX g gm P s lv W) (n j : Nat) (hn : n < 3) (hj : j < 29) (v : Value) (t : TH) (hc : ∀ k, k < 29 → cellT t k = if k = j then v else cellT (s.T n) k) : WX g gm P (s.put n t) lv (W.setCell ⟨g, 4 + n * 29 + j, none⟩ v) := by
 rw [setCell_eq_setRow _ _ _ _ _ _ _ h.row, VA_set]
 exact h.rows _ (updW_one P gm s.T lv n j hn hj v t hc)
theorem Fr.set {g gm : Nat} (lv : Value) (W : World) (o : Nat) (v : Value) : Fr g gm lv lv W (W.setCell ⟨g, o, none⟩ v) := Fr.grown lv (k0 := g) (But.set g o W v).grown (.inl rfl)
theorem WX.other {g gm : Nat} {P : PV} {s : WS} {lv : Value} {W V : World} (h : WX g gm P s lv W) {r : Nat} (hg : W.grownBy V (some r)) (h1 : r ≠ g) (h2 : r ≠ gm) (h3 : lv.ownBlock ≠ some r) (hb : P.bd ≤ r) : WX g gm P s lv V :=
 ⟨(hg.block g h.glt (fun e => h1 (Option.some.inj e).symm)).trans h.row, (hg.block gm h.mlt (fun e => h2 (Option.some.inj e).symm)).trans h.mem, own_keep h.own hg h3, h.ne, h.nl, Nat.le_trans h.bd hg.size, fun U hU hs => h.pol U (fun k hk q1 q2 q3 => (hU k hk q1 q2 q3).trans (hg.block k (Nat.lt_of_lt_of_le hk h.bd) (fun e => by cases e; omega))) hs⟩
theorem WX.more {g gm : Nat} {P : PV} {s : WS} {lv lv' : Value} {W V : World} (h : WX g gm P s lv W) {l : List EN} (hg : W.grownBy V lv.ownBlock) (hl : ∀ k, lv'.ownBlock = some k → lv.ownBlock = some k ∨ W.heap.size ≤ k) (ho : V.ownsRow 0 70 21 lv' l.length (flatE l)) :
  WX g gm P { s with log := l } lv' (V.setCell ⟨g, 91, none⟩ lv') := by
 have hrow : V.heap[g]? = some (.cells (VA 92 (cellW P gm s.T lv)) 79 (0, 0)) := (hg.block g h.glt (fun e => (h.nl g e.symm).1 rfl)).trans h.row
 have hmem : IsM gm s.mem V := (hg.block gm h.mlt (fun e => (h.nl gm e.symm).2 rfl)).trans h.mem
 have hnl : ∀ k, lv'.ownBlock = some k → k ≠ g ∧ k ≠ gm := fun k hk => by
  rcases hl k hk with h1 | h1
  ·
   exact h.nl k h1
  ·
   have := h.glt
   have := h.mlt
   exact ⟨by omega, by omega⟩
 have hset : V.setCell ⟨g, 91, none⟩ lv' = V.setRow g (VA 92 (cellW P gm s.T lv')) := by
  rw [setCell_eq_setRow _ _ 91 _ _ _ _ hrow, VA_set]
  congr 1
  refine VA_congr _ _ _ fun i hi => ?_
  unfold updV cellW
  by_cases hi91 : i = 91
  ·
   subst hi91
   rfl
  ·
   rw [if_neg hi91]
   split
   ·
    rfl
   ·
    split
    ·
     rfl
    ·
     split
     ·
      rfl
     ·
      split
      ·
       rfl
      ·
       rw [if_pos (by omega), if_pos (by omega)]
 rw [hset]
 have hg2 := setRow_grown V g (VA 92 (cellW P gm s.T lv'))
 have hgl : g < V.heap.size := (Array.getElem?_eq_some_iff.1 hrow).1
 refine ⟨setRow_heap _ _ _ _ _ _ hrow, (hg2.block gm (Array.getElem?_eq_some_iff.1 hmem).1 (fun e => h.ne (Option.some.inj e))).trans hmem, own_keep ho hg2 (fun e => (hnl g e).1 rfl), h.ne, hnl, by rw [row_size]; exact Nat.le_trans h.bd hg.size, fun U hU hs => h.pol U (fun k hk h1 h2 h3 => ?_) hs⟩
 have h4 : lv'.ownBlock ≠ some k := fun e => by
  rcases hl k e with h5 | h5
  ·
   exact h3 h5
  ·
   have := h.bd; omega
 exact ((hU k hk h1 h2 h4).trans (row_heap V g k _ h1)).trans (hg.block k (Nat.lt_of_lt_of_le hk h.bd) (fun e => h3 e.symm))
theorem WX.setPhase {g gm : Nat} {P : PV} {s : WS} {lv : Value} {W : World} (h : WX g gm P s lv W) (n k : Nat) (hn : n < 3) : WX g gm P (s.put n { s.T n with phase := k }) lv (W.setCell ⟨g, 4 + n * 29, none⟩ (.int .i64 k)) :=
 h.setT n 0 hn (by omega) _ _ fun j _ => by
  by_cases hj : j = 0
  ·
   subst hj; rfl
  ·
   rw [if_neg hj]; unfold cellT; rw [if_neg hj, if_neg hj]
end Go.Proofs.YtklibmijiecbfaaGreat

/- The document's ward in memory: its block, cell by cell. -/
namespace Go.Proofs.YtklibmijiecbfaaGreat
open Go.RowKit Mm

def cellDT (t : DT) (sv : Value) (j : Nat) : Value :=
 if j = 0 then .int .i64 t.phase else if j = 1 then .int .u32 t.asked.arch else if j = 2 then .int .u32 t.asked.nr else if j < 7 then .int .u64 (regN t.asked (j - 3))
 else if j = 7 then .int .u32 t.asked.arch else if j = 8 then .int .u32 t.asked.nr else if j < 13 then .int .u64 (t.now (j - 9)) else if j < 17 then .string (bs (t.texts (j - 13)))
 else if j = 17 then .int .i64 t.arg else if j = 30 then sv
 else if (j - 18) % 3 = 0 then .string (t.vals ((j - 18) / 3)).path else if (j - 18) % 3 = 1 then .int .u32 (t.vals ((j - 18) / 3)).ip else .int .i64 (t.vals ((j - 18) / 3)).port
def fD (P : PV) (T : Nat → DT) (sv : Nat → Value) (lv : Value) (i : Nat) : Value :=
 if i = 0 then .slice P.oa P.p.rules.length P.cap else if i = 1 then .int .i64 P.p.els.kind else if i = 2 then .int .i64 P.p.els.errno
 else if i < 876 then cellDT (T ((i - 783) / 31)) (sv ((i - 783) / 31)) ((i - 783) % 31) else lv
theorem fD_T (P : PV) (T : Nat → DT) (sv : Nat → Value) (lv : Value) (n j : Nat) (hn : n < 3) (hj : j < 31) : fD P T sv lv (783 + n * 31 + j) = cellDT (T n) (sv n) j := by
 unfold fD
 rw [if_neg (by omega), if_neg (by omega), if_neg (by omega), if_pos (by omega), show (783 + n * 31 + j - 783) / 31 = n by omega, show (783 + n * 31 + j - 783) % 31 = j by omega]
def LD (g : Nat) (P : PV) (T : Nat → DT) (sv : Nat → Value) (lv : Value) : Vr.LY := ⟨g, 3, 877, 95, fD P T sv lv, by omega⟩
def u64L (l : List Nat) : List Value := l.map fun x => Value.int .u64 (x : Nat)
structure DX (g : Nat) (P : PV) (d : DWS) (sv : Nat → Value) (lv : Value) (W : World) : Prop where
 mem : Vr.IsD (LD g P d.T sv lv) d.mem W
 own : W.ownsRow 0 70 21 lv d.log.length (flatE d.log)
 sls : ∀ n, n < 3 → W.ownsRow 0 42 1 (sv n) (d.T n).seals.length (u64L (d.T n).seals)
 nl : lv.ownBlock ≠ some g ∧ ∀ n, n < 3 → (sv n).ownBlock ≠ some g
 ap : ∀ n k, n < 3 → (sv n).ownBlock = some k → lv.ownBlock ≠ some k ∧ ∀ m, m < 3 → m ≠ n → (sv m).ownBlock ≠ some k
 bd : P.bd ≤ W.heap.size
 pol : ∀ V : World, (∀ k, k < P.bd → k ≠ g → lv.ownBlock ≠ some k → (∀ n, n < 3 → (sv n).ownBlock ≠ some k) → V.heap[k]? = W.heap[k]?) → P.bd ≤ V.heap.size → IsPol P.oa P.cap P.p V
theorem DX.glt {g : Nat} {P : PV} {d : DWS} {sv : Nat → Value} {lv : Value} {W : World} (h : DX g P d sv lv W) : g < W.heap.size := h.mem.lt
theorem DX.cell {g : Nat} {P : PV} {d : DWS} {sv : Nat → Value} {lv : Value} {W : World} (h : DX g P d sv lv W) (i : Nat) (hi : i < 877) (hm : i < 3 ∨ 783 ≤ i) : W.cell? ⟨g, i, none⟩ = some (fD P d.T sv lv i) := by
 obtain ⟨r, hr, _⟩ := h.mem
 replace hr : W.heap[g]? = some (.cells (VA 877 (Vr.lay (LD g P d.T sv lv) r)) 95 (0, 0)) := hr
 rw [cell_of_row _ _ i _ _ _ hr]
 show (VA 877 (Vr.lay (LD g P d.T sv lv) r))[i]? = _
 rw [VA_get _ _ _ hi, Vr.lay_out]
 ·
  rfl
 ·
  show ¬ (3 ≤ i ∧ i < 3 + 780)
  omega
theorem DX.fro {g : Nat} {P : PV} {d : DWS} {sv : Nat → Value} {lv : Value} {W : World} (h : DX g P d sv lv W) (i : Nat) : W.frozen? ⟨g, i, none⟩ = false := by
 obtain ⟨r, hr, _⟩ := h.mem
 replace hr : W.heap[g]? = some (.cells (VA 877 (Vr.lay (LD g P d.T sv lv) r)) 95 (0, 0)) := hr
 exact frozen_of_row _ _ i _ _ hr
theorem DX.th {g : Nat} {P : PV} {d : DWS} {sv : Nat → Value} {lv : Value} {W : World} (h : DX g P d sv lv W) (n j : Nat) (hn : n < 3) (hj : j < 31) : W.cell? ⟨g, 783 + n * 31 + j, none⟩ = some (cellDT (d.T n) (sv n) j) := by
 rw [h.cell _ (by omega) (.inr (by omega)), fD_T _ _ _ _ _ _ hn hj]
theorem DX.on {g : Nat} {P : PV} {d : DWS} {sv : Nat → Value} {lv : Value} {W V : World} (h : DX g P d sv lv W) (hb : Below W.heap.size W V) : DX g P d sv lv V :=
 ⟨h.mem.on hb, own_on h.own hb, fun n hn => own_on (h.sls n hn) hb, h.nl, h.ap, Nat.le_trans h.bd hb.size, fun U hU hs => h.pol U (fun k hk h1 h2 h3 => (hU k hk h1 h2 h3).trans (hb.block k (Nat.lt_of_lt_of_le hk h.bd))) hs⟩
theorem DX.memo {g : Nat} {P : PV} {d : DWS} {sv : Nat → Value} {lv : Value} {W V : World} (h : DX g P d sv lv W) {m : MS} (hm : Vr.IsD (LD g P d.T sv lv) m V) (hg : W.grownBy V (some g)) : DX g P { d with mem := m } sv lv V :=
 ⟨hm, own_keep h.own hg h.nl.1, fun n hn => own_keep (h.sls n hn) hg (h.nl.2 n hn), h.nl, h.ap, Nat.le_trans h.bd hg.size, fun U hU hs => h.pol U (fun k hk h1 h2 h3 => (hU k hk h1 h2 h3).trans (hg.block k (Nat.lt_of_lt_of_le hk h.bd) (fun e => h1 (Option.some.inj e)))) hs⟩
theorem DX.rows {g : Nat} {P : PV} {d : DWS} {sv : Nat → Value} {lv : Value} {W : World} (h : DX g P d sv lv W) (n : Nat) (hn : n < 3) (t : DT) (hs : t.seals = (d.T n).seals) (f : Nat → Value) (h1 : ∀ j, j < 31 → f (783 + n * 31 + j) = cellDT t (sv n) j)
  (r : RS) (hr : W.heap[g]? = some (.cells (VA 877 (Vr.lay (LD g P d.T sv lv) r)) 95 (0, 0))) (hrel : Rel d.mem r) (h2 : ∀ i, (∀ j, j < 31 → i ≠ 783 + n * 31 + j) → f i = Vr.lay (LD g P d.T sv lv) r i) : DX g P (d.put n t) sv lv (W.setRow g (VA 877 f)) := by
 have hg := setRow_grown W g (VA 877 f)
 have hrow : (W.setRow g (VA 877 f)).heap[g]? = some (.cells (VA 877 f) 95 (0, 0)) := setRow_heap _ _ _ _ _ _ hr
 have hf : VA 877 f = VA 877 (Vr.lay (LD g P (d.put n t).T sv lv) r) := VA_congr _ _ _ fun i hi => by
  by_cases hin : 783 + n * 31 ≤ i ∧ i < 783 + n * 31 + 31
  ·
   obtain ⟨j, hj, rfl⟩ : ∃ j, j < 31 ∧ i = 783 + n * 31 + j := ⟨i - (783 + n * 31), by omega, by omega⟩
   rw [h1 j hj, Vr.lay_out _ _ _ (by show ¬ (3 ≤ _ ∧ _ < 3 + 780); omega)]
   show _ = fD P (updF d.T n t) sv lv _
   rw [fD_T _ _ _ _ _ _ hn hj, updF_same]
  ·
   rw [h2 i fun j hj => by omega]
   unfold Vr.lay
   by_cases hm : 3 ≤ i ∧ i < 3 + 780
   ·
    rw [if_pos (show (LD g P d.T sv lv).o ≤ i ∧ i < (LD g P d.T sv lv).o + 780 from hm), if_pos (show (LD g P (d.put n t).T sv lv).o ≤ i ∧ i < (LD g P (d.put n t).T sv lv).o + 780 from hm)]
    rfl
   ·
    rw [if_neg (show ¬ ((LD g P d.T sv lv).o ≤ i ∧ i < (LD g P d.T sv lv).o + 780) from hm), if_neg (show ¬ ((LD g P (d.put n t).T sv lv).o ≤ i ∧ i < (LD g P (d.put n t).T sv lv).o + 780) from hm)]
    show fD P d.T sv lv i = fD P (updF d.T n t) sv lv i
    unfold fD
    split
    ·
     rfl
    ·
     split
     ·
      rfl
     ·
      split
      ·
       rfl
      ·
       split
       ·
        rw [updF_other _ _ (by omega)]
       ·
        rfl
 refine ⟨⟨r, by rw [hf] at hrow ⊢; exact hrow, hrel⟩, own_keep h.own hg h.nl.1, fun k hk => ?_, h.nl, h.ap, by rw [row_size]; exact h.bd, fun U hU hs => h.pol U (fun k hk q1 q2 q3 => (hU k hk q1 q2 q3).trans (row_heap W g k _ q1)) hs⟩
 have := own_keep (h.sls k hk) hg (h.nl.2 k hk)
 show (W.setRow g _).ownsRow 0 42 1 (sv k) (updF d.T n t k).seals.length (u64L (updF d.T n t k).seals)
 by_cases hkn : k = n
 ·
  subst hkn; rw [updF_same, hs]; exact this
 ·
  rw [updF_other _ _ hkn]; exact this
theorem DX.setT {g : Nat} {P : PV} {d : DWS} {sv : Nat → Value} {lv : Value} {W : World} (h : DX g P d sv lv W) (n j : Nat) (hn : n < 3) (hj : j < 31) (v : Value) (t : DT) (hs : t.seals = (d.T n).seals) (hc : ∀ k, k < 31 → cellDT t (sv n) k = if k = j then v else cellDT (d.T n) (sv n) k) : DX g P (d.put n t) sv lv (W.setCell ⟨g, 783 + n * 31 + j, none⟩ v) := by
 obtain ⟨r, hr, hrel⟩ := h.mem
 replace hr : W.heap[g]? = some (.cells (VA 877 (Vr.lay (LD g P d.T sv lv) r)) 95 (0, 0)) := hr
 rw [setCell_eq_setRow _ _ _ _ _ _ _ hr, VA_set]
 refine h.rows n hn t hs _ (fun k hk => ?_) r hr hrel (fun i hi => ?_)
 ·
  unfold updV
  rw [hc k hk]
  by_cases hkj : k = j
  ·
   rw [if_pos (by omega), if_pos hkj]
  ·
   rw [if_neg (by omega), if_neg hkj, Vr.lay_out _ _ _ (by show ¬ (3 ≤ _ ∧ _ < 3 + 780); omega)]
   exact fD_T _ _ _ _ _ _ hn hk
 ·
  unfold updV
  rw [if_neg (hi j hj)]
end Go.Proofs.YtklibmijiecbfaaGreat

/- The document's ward: what turns of it. -/
namespace Go.Proofs.YtklibmijiecbfaaGreat
open Go.RowKit Mm

structure DFr (g : Nat) (sv : Nat → Value) (lv : Value) (sv' : Nat → Value) (lv' : Value) (W V : World) : Prop where
 os : V.os = W.os
 tape : V.tape = W.tape
 output : V.output = W.output
 size : W.heap.size ≤ V.heap.size
 block : ∀ k, k < W.heap.size → k ≠ g → lv.ownBlock ≠ some k → (∀ n, n < 3 → (sv n).ownBlock ≠ some k) → V.heap[k]? = W.heap[k]?
 newl : ∀ k, lv'.ownBlock = some k → lv.ownBlock = some k ∨ W.heap.size ≤ k
 news : ∀ n, n < 3 → ∀ k, (sv' n).ownBlock = some k → (sv n).ownBlock = some k ∨ W.heap.size ≤ k
theorem DFr.trans {g : Nat} {s1 s2 s3 : Nat → Value} {l1 l2 l3 : Value} {a b c : World} (h : DFr g s1 l1 s2 l2 a b) (k : DFr g s2 l2 s3 l3 b c) : DFr g s1 l1 s3 l3 a c :=
 ⟨k.os.trans h.os, k.tape.trans h.tape, k.output.trans h.output, Nat.le_trans h.size k.size, fun i hi h1 h2 h3 => (k.block i (Nat.lt_of_lt_of_le hi h.size) h1 (fun e => by
  rcases h.newl i e with h4 | h4
  ·
   exact h2 h4
  ·
   omega) (fun n hn e => by
  rcases h.news n hn i e with h4 | h4
  ·
   exact h3 n hn h4
  ·
   omega)).trans (h.block i hi h1 h2 h3), fun i hi => by
  rcases k.newl i hi with h4 | h4
  ·
   exact h.newl i h4
  ·
   exact .inr (Nat.le_trans h.size h4), fun n hn i hi => by
  rcases k.news n hn i hi with h4 | h4
  ·
   exact h.news n hn i h4
  ·
   exact .inr (Nat.le_trans h.size h4)⟩
theorem DFr.of {g : Nat} (sv : Nat → Value) (lv : Value) {a b : World} (h : Below a.heap.size a b) : DFr g sv lv sv lv a b := ⟨h.os, h.tape, h.output, h.size, fun k hk _ _ _ => h.block k hk, fun _ h => .inl h, fun _ _ _ h => .inl h⟩
theorem DFr.refl (g : Nat) (sv : Nat → Value) (lv : Value) (W : World) : DFr g sv lv sv lv W W := DFr.of sv lv (Below.refl _ _)
theorem DFr.grown {g : Nat} (sv : Nat → Value) (lv : Value) {a b : World} (h : a.grownBy b (some g)) : DFr g sv lv sv lv a b := ⟨h.os, h.tape, h.output, h.size, fun k hk1 h1 _ _ => h.block k hk1 (fun e => by cases e; omega), fun _ h => .inl h, fun _ _ _ h => .inl h⟩
theorem DFr.set {g : Nat} (sv : Nat → Value) (lv : Value) (W : World) (o : Nat) (v : Value) : DFr g sv lv sv lv W (W.setCell ⟨g, o, none⟩ v) := DFr.grown sv lv (But.set g o W v).grown
theorem DX.gen {g : Nat} {P : PV} {d d' : DWS} {sv sv' : Nat → Value} {lv lv' : Value} {W V : World} (h : DX g P d sv lv W) (fr : DFr g sv lv sv' lv' W V) (mem : Vr.IsD (LD g P d'.T sv' lv') d'.mem V) (own : V.ownsRow 0 70 21 lv' d'.log.length (flatE d'.log))
  (sls : ∀ n, n < 3 → V.ownsRow 0 42 1 (sv' n) (d'.T n).seals.length (u64L (d'.T n).seals)) (ap : ∀ n k, n < 3 → (sv' n).ownBlock = some k → lv'.ownBlock ≠ some k ∧ ∀ m, m < 3 → m ≠ n → (sv' m).ownBlock ≠ some k) : DX g P d' sv' lv' V := by
 have hg := h.glt
 refine ⟨mem, own, sls, ⟨fun e => ?_, fun n hn e => ?_⟩, ap, Nat.le_trans h.bd fr.size, fun U hU hs => h.pol U (fun k hk h1 h2 h3 => ?_) hs⟩
 ·
  rcases fr.newl g e with h1 | h1
  ·
   exact h.nl.1 h1
  ·
   omega
 ·
  rcases fr.news n hn g e with h1 | h1
  ·
   exact h.nl.2 n hn h1
  ·
   omega
 ·
  have hb := h.bd
  refine (hU k hk h1 (fun e => ?_) (fun n hn e => ?_)).trans (fr.block k (by omega) h1 h2 h3)
  ·
   rcases fr.newl k e with h4 | h4
   ·
    exact h2 h4
   ·
    omega
  ·
   rcases fr.news n hn k e with h4 | h4
   ·
    exact h3 n hn h4
   ·
    omega
theorem isD_row {g : Nat} {P : PV} {T T' : Nat → DT} {sv sv' : Nat → Value} {lv lv' : Value} {m : MS} {r : RS} {W : World} (hr : W.heap[g]? = some (.cells (VA 877 (Vr.lay (LD g P T sv lv) r)) 95 (0, 0))) (hrel : Rel m r) (f : Nat → Value) (h1 : ∀ j, 3 ≤ j → j < 783 → f j = cellR r (j - 3)) (h2 : ∀ j, j < 877 → (j < 3 ∨ 783 ≤ j) → f j = fD P T' sv' lv' j) :
  Vr.IsD (LD g P T' sv' lv') m (W.setRow g (VA 877 f)) := by
 refine ⟨r, ?_, hrel⟩
 show (W.setRow g (VA 877 f)).heap[g]? = some (.cells (VA 877 (Vr.lay (LD g P T' sv' lv') r)) 95 (0, 0))
 rw [setRow_heap _ _ _ _ _ _ hr, VA_congr 877 f (Vr.lay (LD g P T' sv' lv') r) fun j hj => ?_]
 by_cases hm : 3 ≤ j ∧ j < 783
 ·
  rw [h1 j hm.1 hm.2]
  unfold Vr.lay
  rw [if_pos (show (LD g P T' sv' lv').o ≤ j ∧ j < (LD g P T' sv' lv').o + 780 from by show 3 ≤ j ∧ j < 3 + 780; omega)]
  rfl
 ·
  rw [h2 j hj (by omega), Vr.lay_out _ _ _ (by show ¬ (3 ≤ j ∧ j < 3 + 780); omega)]
  rfl
theorem lay_mem {g : Nat} {P : PV} {T : Nat → DT} {sv : Nat → Value} {lv : Value} {r : RS} (j : Nat) (h1 : 3 ≤ j) (h2 : j < 783) : Vr.lay (LD g P T sv lv) r j = cellR r (j - 3) := by
 unfold Vr.lay
 rw [if_pos (show (LD g P T sv lv).o ≤ j ∧ j < (LD g P T sv lv).o + 780 from by show 3 ≤ j ∧ j < 3 + 780; omega)]
 rfl
theorem lay_far {g : Nat} {P : PV} {T : Nat → DT} {sv : Nat → Value} {lv : Value} {r : RS} (j : Nat) (h : j < 3 ∨ 783 ≤ j) : Vr.lay (LD g P T sv lv) r j = fD P T sv lv j := by
 rw [Vr.lay_out _ _ _ (by show ¬ (3 ≤ j ∧ j < 3 + 780); omega)]
 rfl
theorem isD_set {g : Nat} {P : PV} {T T' : Nat → DT} {sv sv' : Nat → Value} {lv lv' : Value} {m : MS} {W : World} (h : Vr.IsD (LD g P T sv lv) m W) (i : Nat) (ho : i < 3 ∨ 783 ≤ i) (v : Value) (he : ∀ j, j < 877 → (j < 3 ∨ 783 ≤ j) → fD P T' sv' lv' j = if j = i then v else fD P T sv lv j) :
  Vr.IsD (LD g P T' sv' lv') m (W.setCell ⟨g, i, none⟩ v) := by
 obtain ⟨r, hr, hrel⟩ := h
 replace hr : W.heap[g]? = some (.cells (VA 877 (Vr.lay (LD g P T sv lv) r)) 95 (0, 0)) := hr
 rw [setCell_eq_setRow _ _ _ _ _ _ _ hr, VA_set]
 refine isD_row hr hrel _ (fun j h1 h2 => ?_) (fun j hj hf => ?_)
 ·
  unfold updV
  rw [if_neg (by omega), lay_mem j h1 h2]
 ·
  unfold updV
  rw [he j hj hf, lay_far j hf]
theorem isD_sets {g : Nat} {P : PV} {T T' : Nat → DT} {sv sv' : Nat → Value} {lv lv' : Value} {m : MS} {W : World} (h : Vr.IsD (LD g P T sv lv) m W) (o : Nat) (ho : 783 ≤ o) (l : List Value) (he : ∀ j, j < 877 → (j < 3 ∨ 783 ≤ j) → fD P T' sv' lv' j = if o ≤ j ∧ j < o + l.length then l.getD (j - o) undef else fD P T sv lv j) :
  Vr.IsD (LD g P T' sv' lv') m (W.setCells g o l) := by
 obtain ⟨r, hr, hrel⟩ := h
 replace hr : W.heap[g]? = some (.cells (VA 877 (Vr.lay (LD g P T sv lv) r)) 95 (0, 0)) := hr
 rw [Vr.ovr_VA 877 g 95 l o _ W hr]
 refine isD_row hr hrel _ (fun j h1 h2 => ?_) (fun j hj hf => ?_)
 ·
  unfold Vr.ovr
  rw [if_neg (by omega), lay_mem j h1 h2]
 ·
  unfold Vr.ovr
  rw [he j hj hf, lay_far j hf]
theorem fD_th (P : PV) (T : Nat → DT) (sv : Nat → Value) (lv : Value) (n : Nat) (t : DT) (v' : Value) (j : Nat) (hj : j < 877) (hf : j < 3 ∨ 783 ≤ j) : fD P (updF T n t) (updF sv n v') lv j = if 783 + n * 31 ≤ j ∧ j < 783 + n * 31 + 31 ∧ n < 3 then cellDT t v' (j - (783 + n * 31)) else fD P T sv lv j := by
 unfold fD
 by_cases h0 : j = 0
 ·
  rw [if_pos h0, if_pos h0, if_neg (by omega)]
 ·
  rw [if_neg h0, if_neg h0]
  by_cases h1 : j = 1
  ·
   rw [if_pos h1, if_pos h1, if_neg (by omega)]
  ·
   rw [if_neg h1, if_neg h1]
   by_cases h2 : j = 2
   ·
    rw [if_pos h2, if_pos h2, if_neg (by omega)]
   ·
    rw [if_neg h2, if_neg h2]
    by_cases h8 : j < 876
    ·
     rw [if_pos h8, if_pos h8]
     by_cases hn : (j - 783) / 31 = n
     ·
      rw [if_pos (by omega), hn, updF_same, updF_same, show (j - 783) % 31 = j - (783 + n * 31) by omega]
     ·
      rw [if_neg (by omega), updF_other _ _ hn, updF_other _ _ hn]
    ·
     rw [if_neg h8, if_neg h8, if_neg (by omega)]
theorem fD_lv (P : PV) (T : Nat → DT) (sv : Nat → Value) (lv lv' : Value) (j : Nat) (hj : j < 877) (_hf : j < 3 ∨ 783 ≤ j) : fD P T sv lv' j = if j = 876 then lv' else fD P T sv lv j := by
 unfold fD
 by_cases h0 : j = 0
 ·
  rw [if_pos h0, if_pos h0, if_neg (by omega)]
 ·
  rw [if_neg h0, if_neg h0]
  by_cases h1 : j = 1
  ·
   rw [if_pos h1, if_pos h1, if_neg (by omega)]
  ·
   rw [if_neg h1, if_neg h1]
   by_cases h2 : j = 2
   ·
    rw [if_pos h2, if_pos h2, if_neg (by omega)]
   ·
    rw [if_neg h2, if_neg h2]
    by_cases h8 : j < 876
    ·
     rw [if_pos h8, if_pos h8, if_neg (by omega)]
    ·
     rw [if_neg h8, if_pos (by omega)]
theorem cellDT_sv (t : DT) (v v' : Value) (l : List Nat) (k : Nat) : cellDT { t with seals := l } v' k = if k = 30 then v' else cellDT t v k := by
 by_cases h : k = 30
 ·
  subst h; rfl
 ·
  rw [if_neg h]
  unfold cellDT
  simp only [if_neg h]
theorem DX.seals {g : Nat} {P : PV} {d : DWS} {sv : Nat → Value} {lv : Value} {W V : World} (h : DX g P d sv lv W) (n : Nat) (hn : n < 3) {l : List Nat} {v' : Value} (hg : W.grownBy V (sv n).ownBlock) (hl : ∀ k, v'.ownBlock = some k → (sv n).ownBlock = some k ∨ W.heap.size ≤ k) (ho : V.ownsRow 0 42 1 v' l.length (u64L l)) :
  DX g P (d.put n { d.T n with seals := l }) (updF sv n v') lv (V.setCell ⟨g, 783 + n * 31 + 30, none⟩ v') ∧ DFr g sv lv (updF sv n v') lv W (V.setCell ⟨g, 783 + n * 31 + 30, none⟩ v') := by
 have hgl := h.glt
 have hgn := h.nl.2 n hn
 have hv'g : v'.ownBlock ≠ some g := fun e => by
  rcases hl g e with h1 | h1
  ·
   exact hgn h1
  ·
   omega
 have hs := (But.set g (783 + n * 31 + 30) V v').grown
 have hfr : DFr g sv lv (updF sv n v') lv W (V.setCell ⟨g, 783 + n * 31 + 30, none⟩ v') := by
  refine ⟨hs.os.trans hg.os, hs.tape.trans hg.tape, hs.output.trans hg.output, Nat.le_trans hg.size hs.size, fun k hk h1 h2 h3 => ?_, fun _ h => .inl h, fun m hm k hk => ?_⟩
  ·
   exact (hs.block k (Nat.lt_of_lt_of_le hk hg.size) (fun e => h1 (Option.some.inj e))).trans (hg.block k hk (fun e => h3 n hn e.symm))
  ·
   by_cases hmn : m = n
   ·
    subst hmn; rw [updF_same] at hk; exact hl k hk
   ·
    rw [updF_other _ _ hmn] at hk; exact .inl hk
 have hlt : ∀ m, m < 3 → ∀ k, (sv m).ownBlock = some k → k < W.heap.size := fun m hm k hk => ((h.sls m hm).lt k hk).2
 have hll : ∀ k, lv.ownBlock = some k → k < W.heap.size := fun k hk => (h.own.lt k hk).2
 refine ⟨h.gen hfr ?_ ?_ ?_ ?_, hfr⟩
 ·
  refine isD_set (h.mem.imp fun r hr => ⟨(hg.block g hgl (fun e => hgn e.symm)).trans hr.1, hr.2⟩) _ (.inr (by omega)) _ (fun j hj hf => ?_)
  show fD P (updF d.T n _) (updF sv n v') lv j = _
  rw [fD_th _ _ _ _ _ _ _ _ hj hf]
  by_cases hin : 783 + n * 31 ≤ j ∧ j < 783 + n * 31 + 31 ∧ n < 3
  ·
   rw [if_pos hin, cellDT_sv (d.T n) (sv n)]
   obtain ⟨k, hk⟩ : ∃ k, j = 783 + n * 31 + k := ⟨j - (783 + n * 31), by omega⟩
   subst hk
   rw [show 783 + n * 31 + k - (783 + n * 31) = k by omega]
   by_cases hk : k = 30
   ·
    rw [if_pos hk, if_pos (by omega)]
   ·
    rw [if_neg hk, if_neg (by omega), fD_T _ _ _ _ _ _ hn (by omega)]
  ·
   rw [if_neg hin, if_neg (by omega)]
 ·
  refine own_keep (h.own.kept hg ?_) hs h.nl.1
  cases hb : lv.ownBlock with
  | none => exact .inl rfl
  | some k => exact .inr (fun e => (h.ap n k hn e.symm).1 hb)
 ·
  intro m hm
  show World.ownsRow _ 0 42 1 (updF sv n v' m) (updF d.T n { d.T n with seals := l } m).seals.length (u64L (updF d.T n { d.T n with seals := l } m).seals)
  by_cases hmn : m = n
  ·
   subst hmn
   rw [updF_same, updF_same]
   exact own_keep ho hs hv'g
  ·
   rw [updF_other _ _ hmn, updF_other _ _ hmn]
   refine own_keep ((h.sls m hm).kept hg ?_) hs (h.nl.2 m hm)
   cases hb : (sv m).ownBlock with
   | none => exact .inl rfl
   | some k => exact .inr (fun e => (h.ap n k hn e.symm).2 m hm hmn hb)
 ·
  intro m k hm hk
  by_cases hmn : m = n
  ·
   subst hmn
   rw [updF_same] at hk
   rcases hl k hk with h1 | h1
   ·
    exact ⟨(h.ap m k hm h1).1, fun i hi hne => by rw [updF_other _ _ hne]; exact (h.ap m k hm h1).2 i hi hne⟩
   ·
    exact ⟨fun e => by have := hll k e; omega, fun i hi hne => by rw [updF_other _ _ hne]; exact fun e => by have := hlt i hi k e; omega⟩
  ·
   rw [updF_other _ _ hmn] at hk
   refine ⟨(h.ap m k hm hk).1, fun i hi hne => ?_⟩
   by_cases hin : i = n
   ·
    subst hin
    rw [updF_same]
    intro e
    rcases hl k e with h1 | h1
    ·
     exact (h.ap m k hm hk).2 i hi hne h1
    ·
     have := hlt m hm k hk; omega
   ·
    rw [updF_other _ _ hin]; exact (h.ap m k hm hk).2 i hi hne
theorem DX.more {g : Nat} {P : PV} {d : DWS} {sv : Nat → Value} {lv lv' : Value} {W V : World} (h : DX g P d sv lv W) {l : List EN} (hg : W.grownBy V lv.ownBlock) (hl : ∀ k, lv'.ownBlock = some k → lv.ownBlock = some k ∨ W.heap.size ≤ k) (ho : V.ownsRow 0 70 21 lv' l.length (flatE l)) :
  DX g P { d with log := l } sv lv' (V.setCell ⟨g, 876, none⟩ lv') ∧ DFr g sv lv sv lv' W (V.setCell ⟨g, 876, none⟩ lv') := by
 have hgl := h.glt
 have hgn := h.nl.1
 have hv'g : lv'.ownBlock ≠ some g := fun e => by
  rcases hl g e with h1 | h1
  ·
   exact hgn h1
  ·
   omega
 have hs := (But.set g 876 V lv').grown
 have hfr : DFr g sv lv sv lv' W (V.setCell ⟨g, 876, none⟩ lv') := by
  refine ⟨hs.os.trans hg.os, hs.tape.trans hg.tape, hs.output.trans hg.output, Nat.le_trans hg.size hs.size, fun k hk h1 h2 _ => ?_, hl, fun m hm k hk => .inl hk⟩
  exact (hs.block k (Nat.lt_of_lt_of_le hk hg.size) (fun e => h1 (Option.some.inj e))).trans (hg.block k hk (fun e => h2 e.symm))
 have hlt : ∀ m, m < 3 → ∀ k, (sv m).ownBlock = some k → k < W.heap.size := fun m hm k hk => ((h.sls m hm).lt k hk).2
 refine ⟨h.gen hfr ?_ ?_ ?_ ?_, hfr⟩
 ·
  refine isD_set (h.mem.imp fun r hr => ⟨(hg.block g hgl (fun e => hgn e.symm)).trans hr.1, hr.2⟩) _ (.inr (by omega)) _ (fun j hj hf => ?_)
  exact fD_lv _ _ _ _ _ _ hj hf
 ·
  exact own_keep ho hs hv'g
 ·
  intro m hm
  refine own_keep ((h.sls m hm).kept hg ?_) hs (h.nl.2 m hm)
  cases hb : (sv m).ownBlock with
  | none => exact .inl rfl
  | some k => exact .inr (fun e => (h.ap m k hm hb).1 e.symm)
 ·
  intro m k hm hk
  refine ⟨fun e => ?_, (h.ap m k hm hk).2⟩
  rcases hl k e with h1 | h1
  ·
   exact (h.ap m k hm hk).1 h1
  ·
   have := hlt m hm k hk; omega
theorem DX.setTh {g : Nat} {P : PV} {d : DWS} {sv : Nat → Value} {lv : Value} {W : World} (h : DX g P d sv lv W) (n : Nat) (hn : n < 3) (zt : Array Value) (hz : zt.size = 31) (t : DT) (ht : t.seals = []) (hc : ∀ j, j < 31 → zt.toList.getD j undef = cellDT t (.slice none 0 0) j) :
  DX g P (d.put n t) (updF sv n (.slice none 0 0)) lv (W.setCells g (783 + n * 31) zt.toList) ∧ DFr g sv lv (updF sv n (.slice none 0 0)) lv W (W.setCells g (783 + n * 31) zt.toList) := by
 have hzl : zt.toList.length = 31 := by rw [Array.length_toList, hz]
 obtain ⟨r, hr, _⟩ := h.mem
 replace hr : W.heap[g]? = some (.cells (VA 877 (Vr.lay (LD g P d.T sv lv) r)) 95 (0, 0)) := hr
 have hs : W.grownBy (W.setCells g (783 + n * 31) zt.toList) (some g) := by
  rw [Vr.ovr_VA 877 g 95 _ _ _ W hr]
  exact setRow_grown W g _
 have hfr : DFr g sv lv (updF sv n (.slice none 0 0)) lv W (W.setCells g (783 + n * 31) zt.toList) := by
  refine ⟨hs.os, hs.tape, hs.output, hs.size, fun k hk h1 h2 _ => hs.block k hk (fun e => h1 (Option.some.inj e)), fun _ h => .inl h, fun m hm k hk => ?_⟩
  by_cases hmn : m = n
  ·
   subst hmn; rw [updF_same] at hk; cases hk
  ·
   rw [updF_other _ _ hmn] at hk; exact .inl hk
 refine ⟨h.gen hfr ?_ ?_ ?_ ?_, hfr⟩
 ·
  refine isD_sets h.mem _ (by omega) _ (fun j hj hf => ?_)
  show fD P (updF d.T n t) (updF sv n _) lv j = _
  rw [fD_th _ _ _ _ _ _ _ _ hj hf, hzl]
  by_cases hin : 783 + n * 31 ≤ j ∧ j < 783 + n * 31 + 31 ∧ n < 3
  ·
   rw [if_pos hin, if_pos (by omega), hc _ (by omega)]
  ·
   rw [if_neg hin, if_neg (by omega)]
 ·
  exact own_keep h.own hs h.nl.1
 ·
  intro m hm
  show World.ownsRow _ 0 42 1 (updF sv n _ m) (updF d.T n t m).seals.length (u64L (updF d.T n t m).seals)
  by_cases hmn : m = n
  ·
   subst hmn
   rw [updF_same, updF_same, ht]
   exact World.ownsRow_nil _ _ _ _
  ·
   rw [updF_other _ _ hmn, updF_other _ _ hmn]
   exact own_keep (h.sls m hm) hs (h.nl.2 m hm)
 ·
  intro m k hm hk
  by_cases hmn : m = n
  ·
   subst hmn
   rw [updF_same] at hk
   cases hk
  ·
   rw [updF_other _ _ hmn] at hk
   refine ⟨(h.ap m k hm hk).1, fun i hi hne => ?_⟩
   by_cases hin : i = n
   ·
    subst hin; rw [updF_same]; intro e; cases e
   ·
    rw [updF_other _ _ hin]; exact (h.ap m k hm hk).2 i hi hne
theorem T_dput (d : DWS) (n : Nat) (t : DT) : (d.put n t).T n = t := updF_same _ _ _
theorem dput_dput (d : DWS) (n : Nat) (t u : DT) : (d.put n t).put n u = d.put n u := by unfold DWS.put; simp only [updF_again]
theorem DX.setT' {g : Nat} {P : PV} {d : DWS} {sv : Nat → Value} {lv : Value} {W : World} {n : Nat} {t0 : DT} (h : DX g P (d.put n t0) sv lv W) (j : Nat) (hn : n < 3) (hj : j < 31) (v : Value) (t : DT) (hs : t.seals = t0.seals) (hc : ∀ k, cellDT t (sv n) k = if k = j then v else cellDT t0 (sv n) k) : DX g P (d.put n t) sv lv (W.setCell ⟨g, 783 + n * 31 + j, none⟩ v) := by
 have h1 := h.setT n j hn hj v t (by rw [T_dput]; exact hs) (fun k _ => by rw [T_dput]; exact hc k)
 rw [dput_dput] at h1
 exact h1
theorem cellDT_phase (t : DT) (sv : Value) (x k : Nat) : cellDT { t with phase := x } sv k = if k = 0 then .int .i64 x else cellDT t sv k := by
 by_cases h : k = 0
 ·
  subst h; rfl
 ·
  rw [if_neg h]; unfold cellDT; simp only [if_neg h]
theorem cellDT_argx (t : DT) (sv : Value) (x k : Nat) : cellDT { t with arg := x } sv k = if k = 17 then .int .i64 x else cellDT t sv k := by
 by_cases h : k = 17
 ·
  subst h; rfl
 ·
  rw [if_neg h]; unfold cellDT; simp only [if_neg h]
theorem cellDT_now (t : DT) (sv : Value) (i : Nat) (hi : i < 4) : cellDT t sv (9 + i) = .int .u64 (t.now i) := by
 rcases show i = 0 ∨ i = 1 ∨ i = 2 ∨ i = 3 by omega with rfl | rfl | rfl | rfl <;> rfl
theorem cellDT_text (t : DT) (sv : Value) (i : Nat) (hi : i < 4) : cellDT t sv (13 + i) = .string (bs (t.texts i)) := by
 rcases show i = 0 ∨ i = 1 ∨ i = 2 ∨ i = 3 by omega with rfl | rfl | rfl | rfl <;> rfl
theorem cellDT_val (t : DT) (sv : Value) (i : Nat) (hi : i < 4) : cellDT t sv (18 + i * 3) = .string (t.vals i).path ∧ cellDT t sv (18 + i * 3 + 1) = .int .u32 (t.vals i).ip ∧ cellDT t sv (18 + i * 3 + 2) = .int .i64 (t.vals i).port := by
 rcases show i = 0 ∨ i = 1 ∨ i = 2 ∨ i = 3 by omega with rfl | rfl | rfl | rfl <;> exact ⟨rfl, rfl, rfl⟩
theorem cases31 {Q : Nat → Prop} {k : Nat} (hk : k < 31) (h0 : Q 0) (h1 : Q 1) (h2 : Q 2) (h3 : Q 3) (h4 : Q 4) (h5 : Q 5) (h6 : Q 6) (h7 : Q 7) (h8 : Q 8) (h9 : Q 9) (h10 : Q 10) (h11 : Q 11) (h12 : Q 12) (h13 : Q 13) (h14 : Q 14) (h15 : Q 15) (h16 : Q 16) (h17 : Q 17) (h18 : Q 18) (h19 : Q 19) (h20 : Q 20) (h21 : Q 21) (h22 : Q 22) (h23 : Q 23) (h24 : Q 24) (h25 : Q 25) (h26 : Q 26) (h27 : Q 27) (h28 : Q 28) (h29 : Q 29) (h30 : Q 30) : Q k := by
 match k, hk with
 | 0, _ => exact h0
 | 1, _ => exact h1
 | 2, _ => exact h2
 | 3, _ => exact h3
 | 4, _ => exact h4
 | 5, _ => exact h5
 | 6, _ => exact h6
 | 7, _ => exact h7
 | 8, _ => exact h8
 | 9, _ => exact h9
 | 10, _ => exact h10
 | 11, _ => exact h11
 | 12, _ => exact h12
 | 13, _ => exact h13
 | 14, _ => exact h14
 | 15, _ => exact h15
 | 16, _ => exact h16
 | 17, _ => exact h17
 | 18, _ => exact h18
 | 19, _ => exact h19
 | 20, _ => exact h20
 | 21, _ => exact h21
 | 22, _ => exact h22
 | 23, _ => exact h23
 | 24, _ => exact h24
 | 25, _ => exact h25
 | 26, _ => exact h26
 | 27, _ => exact h27
 | 28, _ => exact h28
 | 29, _ => exact h29
 | 30, _ => exact h30
 | j + 31, hj => omega
theorem cellDT_now' (t : DT) (sv : Value) (i x : Nat) (hi : i < 4) (k : Nat) (hk : k < 31) : cellDT { t with now := updF t.now i x } sv k = if k = 9 + i then .int .u64 x else cellDT t sv k := by
 rcases show i = 0 ∨ i = 1 ∨ i = 2 ∨ i = 3 by omega with rfl | rfl | rfl | rfl <;> (refine cases31 (Q := fun k => cellDT _ sv k = if k = _ then _ else cellDT t sv k) hk ?_ ?_ ?_ ?_ ?_ ?_ ?_ ?_ ?_ ?_ ?_ ?_ ?_ ?_ ?_ ?_ ?_ ?_ ?_ ?_ ?_ ?_ ?_ ?_ ?_ ?_ ?_ ?_ ?_ ?_ ?_ <;> rfl)
theorem cellDT_text' (t : DT) (sv : Value) (i : Nat) (l : W8) (hi : i < 4) (k : Nat) (hk : k < 31) : cellDT { t with texts := updF t.texts i l } sv k = if k = 13 + i then .string (bs l) else cellDT t sv k := by
 rcases show i = 0 ∨ i = 1 ∨ i = 2 ∨ i = 3 by omega with rfl | rfl | rfl | rfl <;> (refine cases31 (Q := fun k => cellDT _ sv k = if k = _ then _ else cellDT t sv k) hk ?_ ?_ ?_ ?_ ?_ ?_ ?_ ?_ ?_ ?_ ?_ ?_ ?_ ?_ ?_ ?_ ?_ ?_ ?_ ?_ ?_ ?_ ?_ ?_ ?_ ?_ ?_ ?_ ?_ ?_ ?_ <;> rfl)
theorem cellDT_path' (t : DT) (sv : Value) (i : Nat) (v : ByteArray) (hi : i < 4) (k : Nat) (hk : k < 31) : cellDT { t with vals := updF t.vals i ⟨v, (t.vals i).ip, (t.vals i).port⟩ } sv k = if k = 18 + i * 3 then .string v else cellDT t sv k := by
 rcases show i = 0 ∨ i = 1 ∨ i = 2 ∨ i = 3 by omega with rfl | rfl | rfl | rfl <;> (refine cases31 (Q := fun k => cellDT _ sv k = if k = _ then _ else cellDT t sv k) hk ?_ ?_ ?_ ?_ ?_ ?_ ?_ ?_ ?_ ?_ ?_ ?_ ?_ ?_ ?_ ?_ ?_ ?_ ?_ ?_ ?_ ?_ ?_ ?_ ?_ ?_ ?_ ?_ ?_ ?_ ?_ <;> rfl)
theorem cellDT_ip' (t : DT) (sv : Value) (i x : Nat) (hi : i < 4) (k : Nat) (hk : k < 31) : cellDT { t with vals := updF t.vals i ⟨(t.vals i).path, x, (t.vals i).port⟩ } sv k = if k = 18 + i * 3 + 1 then .int .u32 x else cellDT t sv k := by
 rcases show i = 0 ∨ i = 1 ∨ i = 2 ∨ i = 3 by omega with rfl | rfl | rfl | rfl <;> (refine cases31 (Q := fun k => cellDT _ sv k = if k = _ then _ else cellDT t sv k) hk ?_ ?_ ?_ ?_ ?_ ?_ ?_ ?_ ?_ ?_ ?_ ?_ ?_ ?_ ?_ ?_ ?_ ?_ ?_ ?_ ?_ ?_ ?_ ?_ ?_ ?_ ?_ ?_ ?_ ?_ ?_ <;> rfl)
theorem cellDT_port' (t : DT) (sv : Value) (i : Nat) (x : Int) (hi : i < 4) (k : Nat) (hk : k < 31) : cellDT { t with vals := updF t.vals i ⟨(t.vals i).path, (t.vals i).ip, x⟩ } sv k = if k = 18 + i * 3 + 2 then .int .i64 x else cellDT t sv k := by
 rcases show i = 0 ∨ i = 1 ∨ i = 2 ∨ i = 3 by omega with rfl | rfl | rfl | rfl <;> (refine cases31 (Q := fun k => cellDT _ sv k = if k = _ then _ else cellDT t sv k) hk ?_ ?_ ?_ ?_ ?_ ?_ ?_ ?_ ?_ ?_ ?_ ?_ ?_ ?_ ?_ ?_ ?_ ?_ ?_ ?_ ?_ ?_ ?_ ?_ ?_ ?_ ?_ ?_ ?_ ?_ ?_ <;> rfl)
theorem DX.pol' {g : Nat} {P : PV} {d : DWS} {sv : Nat → Value} {lv : Value} {W : World} (h : DX g P d sv lv W) : IsPol P.oa P.cap P.p W := h.pol W (fun _ _ _ _ _ => rfl) h.bd
theorem DX.setPhase {g : Nat} {P : PV} {d : DWS} {sv : Nat → Value} {lv : Value} {W : World} (h : DX g P d sv lv W) (n k : Nat) (hn : n < 3) : DX g P (d.put n { d.T n with phase := k }) sv lv (W.setCell ⟨g, 783 + n * 31, none⟩ (.int .i64 k)) := h.setT n 0 hn (by omega) _ _ rfl fun j _ => cellDT_phase _ _ _ j
theorem DX.phase {g : Nat} {P : PV} {d : DWS} {sv : Nat → Value} {lv : Value} {W : World} (h : DX g P d sv lv W) (n : Nat) (hn : n < 3) : W.cell? ⟨g, 783 + n * 31, none⟩ = some (.int .i64 (d.T n).phase) := h.th n 0 hn (by omega)
theorem DX.logc {g : Nat} {P : PV} {d : DWS} {sv : Nat → Value} {lv : Value} {W : World} (h : DX g P d sv lv W) : W.cell? ⟨g, 876, none⟩ = some lv := h.cell 876 (by omega) (.inr (by omega))
def DGoes (g : Nat) (P : PV) (d' : DWS) (sv : Nat → Value) (lv : Value) (W : World) (e : Ending) (w' : World) : Prop := e = .returned (.tuple #[]) ∧ ∃ sv' lv', DX g P d' sv' lv' w' ∧ DFr g sv lv sv' lv' W w'
theorem DGoes.from {g : Nat} {P : PV} {d' : DWS} {sv sv1 : Nat → Value} {lv lv1 : Value} {W X : World} {e : Ending} {w' : World} (hb : DFr g sv lv sv1 lv1 W X) (h : DGoes g P d' sv1 lv1 X e w') : DGoes g P d' sv lv W e w' := by
 obtain ⟨h1, sv', lv', h2, h3⟩ := h
 exact ⟨h1, sv', lv', h2, hb.trans h3⟩
end Go.Proofs.YtklibmijiecbfaaGreat

/- errors.Is at errors of the project's own. -/
namespace Go.Proofs.YtklibmijiecbfaaGreat
open Go.RowKit Go.Extern.Stop Go.Stop Go.Extern

theorem is_typeOf (v : Value) (w : World) : (Extern.ReflectliteType.typeOf #[.iface 82 v]).run Tryz.prog w = .ok (.iface 228 (.agg #[.pointer (some ⟨1, 82, none⟩)])) w := by kernel_rfl
theorem is_comparable (w : World) : ((Extern.ReflectliteType.method fun t => do Go.Extern.Rtype.noPackHeld "Comparable" t; (fun a => Value.bool a.comparable) <$> typeInfo t) #[.agg #[.pointer (some ⟨1, 82, none⟩)]]).run Tryz.prog w = .ok (.bool true) w := by kernel_rfl
theorem no_is (v : Value) (xT : TypeId) (w : World) : (Instr.typeAssert (.iface 82 v) xT 230 true).run Tryz.prog w = .ok (.tuple #[.nilIface, .bool false]) w := run_typeAssert_lacksB Tryz.underlying230 (by kernel_rfl) (by kernel_rfl) v xT w
theorem no_unwrap (v : Value) (xT : TypeId) (w : World) : (Instr.typeAssert (.iface 82 v) xT 233 true).run Tryz.prog w = .ok (.tuple #[.nilIface, .bool false]) w := run_typeAssert_lacksB Tryz.underlying233 (by kernel_rfl) (by kernel_rfl) v xT w
theorem no_unwraps (v : Value) (xT : TypeId) (w : World) : (Instr.typeAssert (.iface 82 v) xT 235 true).run Tryz.prog w = .ok (.tuple #[.nilIface, .bool false]) w := run_typeAssert_lacksB Tryz.underlying235 (by kernel_rfl) (by kernel_rfl) v xT w

set_option maxRecDepth 100000 in
set_option maxHeartbeats 1000000 in
theorem eis_any (a b : Int) (w : World) : Calls Tryz.prog 125 #[.iface 82 (.int .i64 a), .iface 82 (.int .i64 b), .bool true] w fun e w' => e = .returned (.bool (a == b)) ∧ w' = w := by
 have nE := no_is
 have uE := no_unwrap
 have vE := no_unwraps
 have eQ := fun w => Lib.run_eql_iface_int (P := Tryz.prog) w (t := 34) (tx := 82) (k := .i64) a b Tryz.underlying34 (by kernel_rfl) Tryz.underlying82
 cases hab : (a == b) with
 | true =>
  rw [hab] at eQ
  clear hab
  go_enter Tryz.func125, Tryz.ntmps125
  go_wp2
  refine wp_loop_rounds 1 ?_
  rw [rounds_succ]
  go_wp2
  go_ret
  exact ⟨rfl, rfl⟩
 | false =>
  rw [hab] at eQ
  clear hab
  go_enter Tryz.func125, Tryz.ntmps125
  go_wp2
  refine wp_loop_rounds 1 ?_
  rw [rounds_succ]
  go_wp2
  go_ret
  exact ⟨rfl, rfl⟩
set_option maxRecDepth 100000 in
set_option maxHeartbeats 1000000 in
theorem errIs_any (a b : Int) (w : World) : Calls Tryz.prog 109 #[.iface 82 (.int .i64 a), .iface 82 (.int .i64 b)] w fun e w' => e = .returned (.bool (a == b)) ∧ w' = w := by
 have h8 := @run_callFunc_extern Tryz.prog 124 _ Extern.ReflectliteType.typeOf Tryz.func124 (by kernel_rfl) (by kernel_rfl) (by kernel_rfl) (by kernel_rfl)
 have h32 := @run_callFunc_extern Tryz.prog 162 _ (Extern.ReflectliteType.method fun t => do Go.Extern.Rtype.noPackHeld "Comparable" t; pure (.bool (← typeInfo t).comparable)) Tryz.func162 (by kernel_rfl) (by kernel_rfl) (by kernel_rfl) (by kernel_rfl)
 have tT := is_typeOf
 have cT := is_comparable
 obtain ⟨r, hr⟩ : ∃ r, r = (a == b) := ⟨_, rfl⟩
 have HE := eis_any a b
 rw [← hr] at HE ⊢
 clear hr
 go_enter Tryz.func109, Tryz.ntmps109
 go_wp2_with (go_at_call 125; refine (HE _).mono ?_; rintro e w' ⟨rfl, rfl⟩)
 go_ret
 exact ⟨rfl, rfl⟩
end Go.Proofs.YtklibmijiecbfaaGreat
