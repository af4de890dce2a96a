/- The document's ward, as it stands, and what each step makes of it; the tie between the two wards, kept by every step: no walk in it. -/
import Derived.Test.YtklibmijiecbfaaGreatK11
import Derived.Test.YtklibmijiecbfaaGreatK8
import Derived.Test.YtklibmijiecbfaaGreatK2
import Derived.Deep.MidRow
import Derived.Test.YtklibmijiecbfaaGreatK1
import Derived.LaidEql
import Derived.Lib.IfaceEq
import Derived.Stop.Asserts
import Derived.RowKitTokens
import Derived.Test.YtklibmijiecbfaaGreatK6
namespace Go.Proofs.YtklibmijiecbfaaGreat
open Mm

structure DT where
 phase : Nat
 asked : KL
 now : Nat → Nat
 texts : Nat → W8
 arg : Nat
 vals : Nat → VL
 seals : List Nat
structure DWS where
 T : Nat → DT
 mem : MS
 log : List EN
def dIdle (ph : Nat) : DT := ⟨ph, zeroKL, fun _ => 0, fun _ => [], 0, fun _ => zeroVL, []⟩
def dEnter (c : KL) : DT := ⟨1, c, regN c, fun _ => [], 0, fun _ => zeroVL, []⟩
def DWS.put (d : DWS) (n : Nat) (t : DT) : DWS := { d with T := updF d.T n t }
def newD : DWS := ⟨fun _ => dIdle 0, zeroM, []⟩
def nextPt (nr i : Nat) : Nat := ((List.range 4).filter fun j => decide (i ≤ j) && decide (2 ≤ kindAt nr j)).headD 4
def dend (n kind : Nat) (errno : Int) (v : VS) (d : DWS) : DWS :=
 ⟨updF d.T n (dIdle (if kind = 3 then 6 else 0)), (d.T n).seals.foldl freeM d.mem, d.log ++ [⟨kind, n, (d.T n).asked, v, errno⟩]⟩
def ddone (n : Nat) (a : ACT) (phase : Nat) (d : DWS) : DWS :=
 if a.kind = 1 then d.put n { d.T n with phase := phase } else if a.kind = 2 then dend n 2 a.errno zeroVS d else if a.kind = 3 then dend n 3 0 zeroVS d else d
def dfurther (n : Nat) (t : DT) (d : DWS) : DWS := d.put n { t with arg := nextPt t.asked.nr (t.arg + 1), phase := if nextPt t.asked.nr (t.arg + 1) = 4 then 3 else t.phase }
def dsnap (n : Nat) (d : DWS) : DWS :=
 let t := d.T n
 match peek d.mem ((t.now t.arg + (t.texts t.arg).length) % 18446744073709551616) with
 | none => dend n 2 14 zeroVS d
 | some b =>
  if kindAt t.asked.nr t.arg = 2 then
   (if b = 0 then dfurther n { t with vals := updF t.vals t.arg ⟨bs (t.texts t.arg), (t.vals t.arg).ip, (t.vals t.arg).port⟩ } d
   else if (t.texts t.arg).length = 40 then dend n 2 36 zeroVS d
   else d.put n { t with texts := updF t.texts t.arg (t.texts t.arg ++ [UInt8.ofNat b]) })
  else if (t.texts t.arg ++ [UInt8.ofNat b]).length < 16 then d.put n { t with texts := updF t.texts t.arg (t.texts t.arg ++ [UInt8.ofNat b]) }
  else match readR (bs (t.texts t.arg ++ [UInt8.ofNat b])) with
   | none => dend n 2 22 zeroVS d
   | some x => dfurther n { t with texts := updF t.texts t.arg (t.texts t.arg ++ [UInt8.ofNat b]), vals := updF t.vals t.arg ⟨(t.vals t.arg).path, x.1, x.2⟩ } d
def dsealL (n : Nat) : List Nat → DWS → DWS
 | [], d => d.put n { d.T n with phase := 5 }
 | i :: r, d => match freeQ d.mem with
  | none => dend n 2 12 zeroVS d
  | some q => dsealL n r ⟨updF d.T n { d.T n with now := updF (d.T n).now i (q * 64), seals := (d.T n).seals ++ [q * 64] }, sealM d.mem q (bytesV (kindAt (d.T n).asked.nr i) ((d.T n).vals i)), d.log⟩
def dexecL (n : Nat) (d : DWS) : List Nat → (Nat → VL) → DWS
 | [], v => dend n 1 0 (vsOf v) d
 | i :: r, v => match followF d.mem (kindAt (d.T n).asked.nr i) ((d.T n).now i) with
  | .inl x => dexecL n d r (updF v i x)
  | .inr e => dend n 2 e zeroVS d
def dexec (n : Nat) (d : DWS) : DWS := if 8 < (d.T n).asked.nr then dend n 2 38 zeroVS d else dexecL n d (ptsOf (d.T n).asked.nr) fun _ => zeroVL
def dfilter (p : POL) (n : Nat) (d : DWS) : DWS :=
 if (judgeR p (d.T n).asked).1.kind = 4 then d.put n { d.T n with phase := 2, arg := nextPt (d.T n).asked.nr 0 } else ddone n (judgeR p (d.T n).asked).1 5 d
def dstepS (p : POL) (n : Nat) (d : DWS) : DWS :=
 match (d.T n).phase with
 | 1 => dfilter p n d
 | 2 => dsnap n d
 | 3 => ddone n (decideR p (d.T n).asked (vsOf (d.T n).vals)) 4 d
 | 4 => dsealL n (ptsOf (d.T n).asked.nr) d
 | 5 => dexec n d
 | _ => d

def sealsOf (t : TH) : List Nat := ((List.range 4).filter fun i => t.sld i).map t.args
structure Tie (t : TH) (d : DT) : Prop where
 phase : d.phase = t.phase
 call : d.asked = t.call
 now : ∀ i, i < 4 → d.now i = t.args i
 vals : d.vals = t.vals
 seals : d.seals = sealsOf t
 arg : t.phase = 2 → d.arg = ptAt t ∧ d.texts (ptAt t) = t.read ∧ ∀ j, t.seen < j → d.texts ((ptsOf t.call.nr).getD j 4) = []
 texts : t.phase = 1 → ∀ i, d.texts i = []
structure TieW (s : WS) (d : DWS) : Prop where
 thr : ∀ n, n < 3 → Tie (s.T n) (d.T n)
 mem : d.mem = s.mem
 log : d.log = s.log
theorem tie_idle (ph : Nat) (h : ph = 0 ∨ ph = 6) : Tie (idleT ph) (dIdle ph) :=
 ⟨rfl, rfl, fun _ _ => rfl, rfl, by show [] = sealsOf _; unfold sealsOf idleT; simp, fun h2 => by have : ph = 2 := h2; omega, fun h1 => by have : ph = 1 := h1; omega⟩
theorem tie_enter (c : KL) : Tie (enterT c) (dEnter c) :=
 ⟨rfl, rfl, fun _ _ => rfl, rfl, by show [] = sealsOf _; unfold sealsOf enterT; simp, fun h2 => by have : 1 = 2 := h2; omega, fun _ _ => rfl⟩
theorem tie_new : TieW newS newD := ⟨fun _ _ => tie_idle 0 (.inl rfl), rfl, rfl⟩
theorem TieW.put {s : WS} {d : DWS} (h : TieW s d) (n : Nat) {t : TH} {u : DT} (ht : Tie t u) : TieW (s.put n t) (d.put n u) := by
 refine ⟨fun k hk => ?_, h.mem, h.log⟩
 show Tie (updF s.T n t k) (updF d.T n u k)
 by_cases hkn : k = n
 ·
  subst hkn; rw [updF_same, updF_same]; exact ht
 ·
  rw [updF_other _ _ hkn, updF_other _ _ hkn]; exact h.thr k hk
theorem foldl_freeT (t : TH) (m : MS) : ∀ i, (((List.range i).filter fun j => t.sld j).map t.args).foldl freeM m = freeT t m i
 | 0 => rfl
 | i + 1 => by
  rw [List.range_succ, List.filter_append, List.map_append, List.foldl_append, foldl_freeT t m i]
  show _ = if t.sld i = true then freeM (freeT t m i) (t.args i) else freeT t m i
  cases hs : t.sld i
  ·
   simp [hs]
  ·
   simp [hs]
theorem tie_end {s : WS} {d : DWS} (h : TieW s d) {n : Nat} (hn : n < 3) (kind : Nat) (errno : Int) (v : VS) : TieW (endS n kind errno v s) (dend n kind errno v d) := by
 have ht := h.thr n hn
 refine ⟨fun k hk => ?_, ?_, ?_⟩
 ·
  show Tie (updF s.T n _ k) (updF d.T n _ k)
  by_cases hkn : k = n
  ·
   subst hkn; rw [updF_same, updF_same]; exact tie_idle _ (by split <;> simp)
  ·
   rw [updF_other _ _ hkn, updF_other _ _ hkn]; exact h.thr k hk
 ·
  show (d.T n).seals.foldl freeM d.mem = freeT (s.T n) s.mem 4
  rw [ht.seals, h.mem]
  exact foldl_freeT _ _ 4
 ·
  show d.log ++ _ = s.log ++ _
  rw [h.log, ht.call]
theorem tie_do {s : WS} {d : DWS} (h : TieW s d) {n : Nat} (hn : n < 3) {a : ACT} (ha : actF a = 0) (next : Nat) (h1 : next ≠ 1) (h2 : next ≠ 2) : TieW (doS n a next s) (ddone n a next d) := by
 have ht := h.thr n hn
 unfold doS ddone
 rcases act_cases ha with rfl | rfl | ⟨k, _, _, rfl⟩
 ·
  rw [if_pos rfl, if_pos rfl]
  exact h.put n ⟨rfl, ht.call, ht.now, ht.vals, ht.seals, fun e => absurd e h2, fun e => absurd e h1⟩
 ·
  rw [if_neg (by decide), if_neg (by decide), if_neg (by decide), if_neg (by decide), if_pos rfl]
  exact tie_end h hn _ _ _
 ·
  rw [if_neg (by show ¬ (2 : Int) = 1; omega), if_pos rfl, if_neg (by show ¬ (2 : Int) = 1; omega), if_pos rfl]
  exact tie_end h hn _ _ _
theorem nextPt_first {nr : Nat} (h : nr ≤ 8) (h0 : 0 < (ptsOf nr).length) : nextPt nr 0 = (ptsOf nr).getD 0 0 := by
 revert h0
 rcases nine h with rfl | rfl | rfl | rfl | rfl | rfl | rfl | rfl | rfl <;> decide
theorem nextPt_next {nr i : Nat} (h : nr ≤ 8) (hi : i < (ptsOf nr).length) : nextPt nr ((ptsOf nr).getD i 0 + 1) = (ptsOf nr).getD (i + 1) 4 := by
 have h2 := pts_few nr
 rcases show i = 0 ∨ i = 1 by omega with rfl | rfl
 ·
  revert hi
  clear h2
  rcases nine h with rfl | rfl | rfl | rfl | rfl | rfl | rfl | rfl | rfl <;> decide
 ·
  revert hi
  clear h2
  rcases nine h with rfl | rfl | rfl | rfl | rfl | rfl | rfl | rfl | rfl <;> decide
theorem pts_diff {nr i j : Nat} (hi : i < (ptsOf nr).length) (hij : i < j) : (ptsOf nr).getD j 4 ≠ (ptsOf nr).getD i 0 := by
 have hm : (ptsOf nr).getD i 0 ∈ ptsOf nr := by
  rw [List.getD_eq_getElem?_getD, List.getElem?_eq_getElem hi]
  exact List.getElem_mem hi
 have hlt := (pts_of hm).2.1
 by_cases hj : j < (ptsOf nr).length
 ·
  intro e
  rw [List.getD_eq_getElem?_getD, List.getD_eq_getElem?_getD, List.getElem?_eq_getElem hi, List.getElem?_eq_getElem hj] at e
  have := (List.getElem_inj (pts_nodup nr)).1 (show (ptsOf nr)[j] = (ptsOf nr)[i] from e)
  omega
 ·
  rw [List.getD_eq_getElem?_getD, List.getElem?_eq_none (by omega)]
  show 4 ≠ _
  omega
theorem tie_filter {p : POL} (hp : polF p = 0) {s : WS} {d : DWS} (hi : Inv p s) (h : TieW s d) {n : Nat} (hn : n < 3) (hph : (s.T n).phase = 1) : TieW (filterS p n s) (dfilter p n d) := by
 have ht := h.thr n hn
 have he := (hi.thr n hn).ent hph
 unfold filterS dfilter
 rw [ht.call]
 by_cases h4 : (judgeR p (s.T n).call).1.kind = 4
 ·
  rw [if_pos h4, if_pos h4]
  obtain ⟨h8, h0⟩ := trace_pts hp h4
  refine h.put n ⟨rfl, ht.call, ht.now, ht.vals, ht.seals, fun _ => ⟨?_, ?_, fun j _ => ht.texts hph _⟩, fun e => by have : 2 = 1 := e; omega⟩
  ·
   show nextPt _ 0 = (ptsOf (s.T n).call.nr).getD (s.T n).seen 0
   rw [show (s.T n).seen = 0 by rw [he]; rfl]
   exact nextPt_first h8 h0
  ·
   show (d.T n).texts _ = (s.T n).read
   rw [ht.texts hph, he]
   rfl
 ·
  rw [if_neg h4, if_neg h4]
  exact tie_do h hn ((judge_act hp _).resolve_left h4) 5 (by omega) (by omega)
theorem tie_further {s : WS} {d : DWS} (h : TieW s d) {n : Nat} (hn : n < 3) (hph : (s.T n).phase = 2) (h8 : (s.T n).call.nr ≤ 8) (hseen : (s.T n).seen < (ptsOf (s.T n).call.nr).length) (v : VL) (u : DT)
  (hu : u.phase = 2 ∧ u.asked = (s.T n).call ∧ u.now = (d.T n).now ∧ u.vals = updF (s.T n).vals (ptAt (s.T n)) v ∧ u.seals = (d.T n).seals ∧ u.arg = ptAt (s.T n)) (hx : ∀ i, i ≠ ptAt (s.T n) → u.texts i = (d.T n).texts i) :
  TieW (s.put n { s.T n with vals := updF (s.T n).vals (ptAt (s.T n)) v, read := [], seen := (s.T n).seen + 1, phase := if (s.T n).seen + 1 = (ptsOf (s.T n).call.nr).length then 3 else 2 }) (dfurther n u d) := by
 have ht := h.thr n hn
 obtain ⟨u1, u2, u3, u4, u5, u6⟩ := hu
 have hnx : nextPt u.asked.nr (u.arg + 1) = (ptsOf (s.T n).call.nr).getD ((s.T n).seen + 1) 4 := by
  rw [u2, u6]
  exact nextPt_next h8 hseen
 have hph2 : (if nextPt u.asked.nr (u.arg + 1) = 4 then 3 else u.phase) = if (s.T n).seen + 1 = (ptsOf (s.T n).call.nr).length then 3 else 2 := by
  rw [hnx, u1]
  by_cases hl : (s.T n).seen + 1 = (ptsOf (s.T n).call.nr).length
  ·
   rw [if_pos hl, if_pos (by rw [List.getD_eq_getElem?_getD, List.getElem?_eq_none (by omega)]; rfl)]
  ·
   rw [if_neg hl, if_neg]
   have hlt : (s.T n).seen + 1 < (ptsOf (s.T n).call.nr).length := by omega
   rw [List.getD_eq_getElem?_getD, List.getElem?_eq_getElem hlt]
   have := (pts_of (List.getElem_mem hlt)).2.1
   show (ptsOf (s.T n).call.nr)[(s.T n).seen + 1] ≠ 4
   omega
 have htx : ∀ j, (s.T n).seen < j → u.texts ((ptsOf (s.T n).call.nr).getD j 4) = [] := fun j hj => by
  rw [hx _ (pts_diff hseen hj)]
  exact (ht.arg hph).2.2 j hj
 refine h.put n ⟨hph2, u2, fun i hi => by show u.now i = _; rw [u3]; exact ht.now i hi, u4, by show u.seals = _; rw [u5]; exact ht.seals, fun e => ?_, fun e => ?_⟩
 ·
  have hl : ¬ (s.T n).seen + 1 = (ptsOf (s.T n).call.nr).length := fun hl => by
   have : (if (s.T n).seen + 1 = (ptsOf (s.T n).call.nr).length then 3 else 2) = 2 := e
   rw [if_pos hl] at this
   omega
  have heq : (ptsOf (s.T n).call.nr).getD ((s.T n).seen + 1) 4 = (ptsOf (s.T n).call.nr).getD ((s.T n).seen + 1) 0 := by
   have hlt : (s.T n).seen + 1 < (ptsOf (s.T n).call.nr).length := by omega
   rw [List.getD_eq_getElem?_getD, List.getD_eq_getElem?_getD, List.getElem?_eq_getElem hlt]
   rfl
  refine ⟨hnx.trans heq, ?_, fun j hj => htx j (by have : (s.T n).seen + 1 < j := hj; omega)⟩
  show u.texts ((ptsOf (s.T n).call.nr).getD ((s.T n).seen + 1) 0) = []
  rw [← heq]
  exact htx _ (by omega)
 ·
  have : (if (s.T n).seen + 1 = (ptsOf (s.T n).call.nr).length then 3 else 2) = 1 := e
  split at this <;> omega
end Go.Proofs.YtklibmijiecbfaaGreat

/- The tie between the two wards, kept by every step. -/
namespace Go.Proofs.YtklibmijiecbfaaGreat
open Mm

theorem snapL_whole {n : Nat} {l : W8} {s : WS} (h : wholeB (kindAt (s.T n).call.nr (ptAt (s.T n))) l = true) : snapL n l s = match valOf (kindAt (s.T n).call.nr (ptAt (s.T n))) l with
  | none => endS n 2 (valErr (kindAt (s.T n).call.nr (ptAt (s.T n))) : Nat) zeroVS s
  | some v => s.put n { s.T n with vals := updF (s.T n).vals (ptAt (s.T n)) v, read := [], seen := (s.T n).seen + 1, phase := if (s.T n).seen + 1 = (ptsOf (s.T n).call.nr).length then 3 else 2 } := by
 unfold snapL
 simp only
 rw [if_pos h]
 cases valOf (kindAt (s.T n).call.nr (ptAt (s.T n))) l <;> rfl
theorem snapL_part {n : Nat} {l : W8} {s : WS} (h : wholeB (kindAt (s.T n).call.nr (ptAt (s.T n))) l = false) : snapL n l s = s.put n { s.T n with read := l } := by
 unfold snapL
 simp only
 rw [if_neg (by rw [h]; exact Bool.false_ne_true)]
theorem tie_part {s : WS} {d : DWS} (h : TieW s d) {n : Nat} (hn : n < 3) (hph : (s.T n).phase = 2) (hseen : (s.T n).seen < (ptsOf (s.T n).call.nr).length) (l : W8) : TieW (s.put n { s.T n with read := l }) (d.put n { d.T n with asked := (s.T n).call, arg := ptAt (s.T n), texts := updF (d.T n).texts (ptAt (s.T n)) l }) := by
 have ht := h.thr n hn
 exact h.put n ⟨ht.phase, rfl, ht.now, ht.vals, ht.seals, fun _ => ⟨rfl, updF_same _ _ _, fun j hj => (updF_other _ _ (pts_diff hseen hj)).trans ((ht.arg hph).2.2 j hj)⟩, fun e => by have : (s.T n).phase = 1 := e; omega⟩
theorem tie_snap {p : POL} {s : WS} {d : DWS} (hi : Inv p s) (h : TieW s d) {n : Nat} (hn : n < 3) (hph : (s.T n).phase = 2) : TieW (snapS n s) (dsnap n d) := by
 have ht := h.thr n hn
 have hT := hi.thr n hn
 have h8 := hT.trc (by omega) (by omega)
 obtain ⟨hseen, hrd⟩ := hT.snap hph
 have hvok := hT.vok (by omega) (by omega)
 obtain ⟨ha1, ha2, _⟩ := ht.arg hph
 have hm : ptAt (s.T n) ∈ ptsOf (s.T n).call.nr := by
  unfold ptAt
  rw [List.getD_eq_getElem?_getD, List.getElem?_eq_getElem hseen]
  exact List.getElem_mem hseen
 obtain ⟨_, hat4, hkind⟩ := pts_of hm
 have hnot : ptAt (s.T n) ∉ (ptsOf (s.T n).call.nr).take (s.T n).seen := fun hin => by
  obtain ⟨j, hj, hje⟩ := List.getElem_of_mem hin
  rw [List.length_take] at hj
  rw [List.getElem_take] at hje
  have h2 : (ptsOf (s.T n).call.nr)[(s.T n).seen] = ptAt (s.T n) := by
   unfold ptAt
   rw [List.getD_eq_getElem?_getD, List.getElem?_eq_getElem hseen]
   rfl
  have := (List.getElem_inj (pts_nodup _)).1 (hje.trans h2.symm)
  omega
 have hz := (hvok (ptAt (s.T n))).2 hnot
 unfold snapS dsnap
 simp only
 rw [ha1, ha2, h.mem, ht.now _ hat4, ht.call]
 cases hpk : peek s.mem (((s.T n).args (ptAt (s.T n)) + (s.T n).read.length) % 18446744073709551616) with
 | none => exact tie_end h hn _ _ _
 | some b =>
  simp only
  have hb : b < 256 := by
   unfold peek at hpk
   split at hpk
   ·
    rw [← Option.some.inj hpk]; exact hi.mem.fine.bytes _
   ·
    cases hpk
  have hb0 : UInt8.ofNat b = 0 ↔ b = 0 := by
   constructor
   ·
    intro e
    have := congrArg UInt8.toNat e
    rw [UInt8.toNat_ofNat', Nat.mod_eq_of_lt (show b < 2 ^ 8 from hb)] at this
    exact this
   ·
    rintro rfl; rfl
  have hlast : ((s.T n).read ++ [UInt8.ofNat b]).getLast? = some (UInt8.ofNat b) := by simp
  rcases hkind with hk | hk
  ·
   have hlen := (hrd.2 (by omega)).1
   rw [if_pos hk]
   by_cases hbz : b = 0
   ·
    rw [if_pos hbz]
    have hw : wholeB (kindAt (s.T n).call.nr (ptAt (s.T n))) ((s.T n).read ++ [UInt8.ofNat b]) = true := by
     unfold wholeB
     rw [if_neg (by omega), hlast, hb0.2 hbz]
     rfl
    rw [snapL_whole hw]
    have hv : valOf (kindAt (s.T n).call.nr (ptAt (s.T n))) ((s.T n).read ++ [UInt8.ofNat b]) = some ⟨bs (s.T n).read, 0, 0⟩ := by
     unfold valOf
     rw [if_neg (by omega), hlast, hb0.2 hbz, if_pos rfl, List.dropLast_concat]
    rw [hv]
    simp only
    refine tie_further h hn hph h8 hseen _ _ ⟨ht.phase.trans hph, rfl, rfl, ?_, rfl, rfl⟩ (fun i _ => rfl)
    show updF (d.T n).vals _ _ = _
    rw [ht.vals, hz]
    rfl
   ·
    rw [if_neg hbz]
    have hne : ¬ (UInt8.ofNat b = 0) := fun e => hbz (hb0.1 e)
    by_cases h40 : (s.T n).read.length = 40
    ·
     rw [if_pos h40]
     have hw : wholeB (kindAt (s.T n).call.nr (ptAt (s.T n))) ((s.T n).read ++ [UInt8.ofNat b]) = true := by
      unfold wholeB
      rw [if_neg (by omega), List.length_append, h40]
      simp
     rw [snapL_whole hw]
     have hv : valOf (kindAt (s.T n).call.nr (ptAt (s.T n))) ((s.T n).read ++ [UInt8.ofNat b]) = none := by
      unfold valOf
      rw [if_neg (by omega), hlast, if_neg (fun e => hne (Option.some.inj e))]
     rw [hv, hk]
     exact tie_end h hn _ _ _
    ·
     rw [if_neg h40]
     have hw : wholeB (kindAt (s.T n).call.nr (ptAt (s.T n))) ((s.T n).read ++ [UInt8.ofNat b]) = false := by
      unfold wholeB
      rw [if_neg (by omega), hlast, List.length_append, List.length_singleton, decide_eq_false (by omega), Bool.or_false]
      simpa using hne
     rw [snapL_part hw]
     exact tie_part h hn hph hseen _
  ·
   have hlen := hrd.1 hk
   rw [if_neg (by omega)]
   by_cases h16 : ((s.T n).read ++ [UInt8.ofNat b]).length < 16
   ·
    rw [if_pos h16]
    have hw : wholeB (kindAt (s.T n).call.nr (ptAt (s.T n))) ((s.T n).read ++ [UInt8.ofNat b]) = false := by
     unfold wholeB
     rw [if_pos hk]
     simp only [beq_eq_false_iff_ne]
     omega
    rw [snapL_part hw]
    exact tie_part h hn hph hseen _
   ·
    rw [if_neg h16]
    have hw : wholeB (kindAt (s.T n).call.nr (ptAt (s.T n))) ((s.T n).read ++ [UInt8.ofNat b]) = true := by
     unfold wholeB
     rw [if_pos hk]
     simp only [beq_iff_eq]
     rw [List.length_append, List.length_singleton] at h16 ⊢
     omega
    rw [snapL_whole hw]
    have hv : valOf (kindAt (s.T n).call.nr (ptAt (s.T n))) ((s.T n).read ++ [UInt8.ofNat b]) = (readR (bs ((s.T n).read ++ [UInt8.ofNat b]))).map fun x => ⟨ByteArray.empty, x.1, x.2⟩ := by
     unfold valOf
     rw [if_pos hk]
    rw [hv]
    cases hr : readR (bs ((s.T n).read ++ [UInt8.ofNat b])) with
    | none =>
     simp only [Option.map_none]
     rw [hk]
     exact tie_end h hn _ _ _
    | some x =>
     simp only [Option.map_some]
     refine tie_further h hn hph h8 hseen _ _ ⟨ht.phase.trans hph, rfl, rfl, ?_, rfl, rfl⟩ (fun i hne => updF_other _ _ hne)
     show updF (d.T n).vals _ _ = _
     rw [ht.vals, hz]
     rfl
theorem seals_more {t : TH} {i x : Nat} (hi : i < 4) (hf : ∀ j, i ≤ j → t.sld j = false) : sealsOf { t with args := updF t.args i x, sld := updF t.sld i true } = sealsOf t ++ [x] := by
 have r4 : List.range 4 = [0, 1, 2, 3] := rfl
 unfold sealsOf
 simp only [r4]
 rcases show i = 0 ∨ i = 1 ∨ i = 2 ∨ i = 3 by omega with rfl | rfl | rfl | rfl
 ·
  simp [updF, hf 0 (by omega), hf 1 (by omega), hf 2 (by omega), hf 3 (by omega)]
 ·
  cases h0 : t.sld 0 <;> simp [updF, h0, hf 1 (by omega), hf 2 (by omega), hf 3 (by omega)]
 ·
  cases h0 : t.sld 0 <;> cases h1 : t.sld 1 <;> simp [updF, h0, h1, hf 2 (by omega), hf 3 (by omega)]
 ·
  cases h0 : t.sld 0 <;> cases h1 : t.sld 1 <;> cases h2 : t.sld 2 <;> simp [updF, h0, h1, h2, hf 3 (by omega)]
theorem pts_sorted (nr : Nat) : (ptsOf nr).Pairwise (· < ·) := by
 unfold ptsOf
 split
 ·
  exact List.Pairwise.filter _ List.pairwise_lt_range
 ·
  exact List.Pairwise.nil
theorem tie_sealL {n : Nat} (hn : n < 3) : ∀ (r : List Nat) {s : WS} {d : DWS}, TieW s d → r.Pairwise (· < ·) → (∀ i ∈ r, i < 4 ∧ ∀ j, i ≤ j → (s.T n).sld j = false) → TieW (sealL n r s) (dsealL n r d)
 | [], s, d, h, _, _ => by
  have ht := h.thr n hn
  unfold sealL dsealL
  exact h.put n ⟨rfl, ht.call, ht.now, ht.vals, ht.seals, fun e => by have : 5 = 2 := e; omega, fun e => by have : 5 = 1 := e; omega⟩
 | i :: r, s, d, h, hp, hs => by
  have ht := h.thr n hn
  obtain ⟨hi4, hif⟩ := hs i (by simp)
  have hp' := List.pairwise_cons.1 hp
  unfold sealL dsealL
  rw [h.mem]
  cases hq : freeQ s.mem with
  | none => exact tie_end h hn _ _ _
  | some q =>
   simp only
   refine tie_sealL hn r ⟨fun k hk => ?_, by show sealM _ q _ = sealM _ q _; rw [ht.call, ht.vals], h.log⟩ hp'.2 (fun i' hi' => ⟨(hs i' (by simp [hi'])).1, fun j hj => ?_⟩)
   ·
    show Tie (updF s.T n _ k) (updF d.T n _ k)
    by_cases hkn : k = n
    ·
     subst hkn
     rw [updF_same, updF_same]
     refine ⟨ht.phase, ht.call, fun j hj => ?_, ht.vals, ?_, fun e => ?_, fun e => ?_⟩
     ·
      show updF _ _ _ j = updF _ _ _ j
      by_cases hji : j = i
      ·
       subst hji; rw [updF_same, updF_same]
      ·
       rw [updF_other _ _ hji, updF_other _ _ hji]; exact ht.now j hj
     ·
      show (d.T k).seals ++ [q * 64] = _
      rw [seals_more hi4 hif, ht.seals]
     ·
      exact ht.arg e
     ·
      exact ht.texts e
    ·
     rw [updF_other _ _ hkn, updF_other _ _ hkn]; exact h.thr k hk
   ·
    show (updF s.T n _ n).sld j = false
    rw [updF_same]
    show updF (s.T n).sld i true j = false
    have := hp'.1 i' hi'
    rw [updF_other _ _ (by omega)]
    exact hif j (by omega)
theorem tie_execL {n : Nat} (hn : n < 3) {s : WS} {d : DWS} (h : TieW s d) : ∀ (r : List Nat) (v : Nat → VL), (∀ i ∈ r, i < 4) → TieW (execL n s r v) (dexecL n d r v)
 | [], v, _ => tie_end h hn _ _ _
 | i :: r, v, hr => by
  have ht := h.thr n hn
  unfold execL dexecL
  rw [h.mem, ht.call, ht.now i (hr i (by simp))]
  cases followF s.mem (kindAt (s.T n).call.nr i) ((s.T n).args i) with
  | inl x => exact tie_execL hn h r _ fun j hj => hr j (by simp [hj])
  | inr e => exact tie_end h hn _ _ _
theorem tie_step {p : POL} (hp : polF p = 0) {s : WS} {d : DWS} (hi : Inv p s) (h : TieW s d) {n : Nat} (hn : n < 3) : TieW (stepS p n s) (dstepS p n d) := by
 have ht := h.thr n hn
 have hT := hi.thr n hn
 have hp' := ht.phase
 rcases seven hT.ph with hph | hph | hph | hph | hph | hph | hph
 ·
  rw [show stepS p n s = s by unfold stepS; simp only [hph], show dstepS p n d = d by unfold dstepS; simp only [hp', hph]]
  exact h
 ·
  rw [show stepS p n s = filterS p n s by unfold stepS; simp only [hph], show dstepS p n d = dfilter p n d by unfold dstepS; simp only [hp', hph]]
  exact tie_filter hp hi h hn hph
 ·
  rw [show stepS p n s = snapS n s by unfold stepS; simp only [hph], show dstepS p n d = dsnap n d by unfold dstepS; simp only [hp', hph]]
  exact tie_snap hi h hn hph
 ·
  rw [show stepS p n s = judgeS p n s by unfold stepS; simp only [hph], show dstepS p n d = ddone n (decideR p (d.T n).asked (vsOf (d.T n).vals)) 4 d by unfold dstepS; simp only [hp', hph]]
  unfold judgeS
  rw [ht.call, ht.vals]
  exact tie_do h hn (decide_act hp _ _) 4 (by omega) (by omega)
 ·
  rw [show stepS p n s = sealS n s by unfold stepS; simp only [hph], show dstepS p n d = dsealL n (ptsOf (d.T n).asked.nr) d by unfold dstepS; simp only [hp', hph]]
  unfold sealS
  rw [ht.call]
  exact tie_sealL hn _ h (pts_sorted _) fun i hi' => ⟨(pts_of hi').2.1, fun j _ => (hT.plain (by omega)).1 j⟩
 ·
  rw [show stepS p n s = execS n s by unfold stepS; simp only [hph], show dstepS p n d = dexec n d by unfold dstepS; simp only [hp', hph]]
  unfold execS dexec
  rw [ht.call]
  by_cases h8 : 8 < (s.T n).call.nr
  ·
   rw [if_pos h8, if_pos h8]
   exact tie_end h hn _ _ _
  ·
   rw [if_neg h8, if_neg h8]
   exact tie_execL hn h _ _ fun i hi' => (pts_of hi').2.1
 ·
  rw [show stepS p n s = s by unfold stepS; simp only [hph], show dstepS p n d = d by unfold dstepS; simp only [hp', hph]]
  exact h
end Go.Proofs.YtklibmijiecbfaaGreat

/- A ward in memory: its block, cell by cell. -/
namespace Go.Proofs.YtklibmijiecbfaaGreat
open Go.RowKit Mm

structure PV where
 p : POL
 oa : Option Addr
 cap : Nat
 bd : Nat
def cellT (t : TH) (j : Nat) : Value :=
 if j = 0 then .int .i64 t.phase else if j = 1 then .int .u32 t.call.arch else if j = 2 then .int .u32 t.call.nr
 else if j < 7 then .int .u64 (regN t.call (j - 3)) else if j < 11 then .int .u64 (t.args (j - 7)) else if j < 15 then .bool (t.sld (j - 11))
 else if j = 15 then .int .i64 t.seen else if j = 16 then .string (bs t.read)
 else if (j - 17) % 3 = 0 then .string (t.vals ((j - 17) / 3)).path else if (j - 17) % 3 = 1 then .int .u32 (t.vals ((j - 17) / 3)).ip else .int .i64 (t.vals ((j - 17) / 3)).port
def cellW (P : PV) (gm : Nat) (T : Nat → TH) (lv : Value) (i : Nat) : Value :=
 if i = 0 then .slice P.oa P.p.rules.length P.cap else if i = 1 then .int .i64 P.p.els.kind else if i = 2 then .int .i64 P.p.els.errno
 else if i = 3 then .pointer (some ⟨gm, 0, none⟩) else if i < 91 then cellT (T ((i - 4) / 29)) ((i - 4) % 29) else lv
theorem cellW_T (P : PV) (gm : Nat) (T : Nat → TH) (lv : Value) (n j : Nat) (hn : n < 3) (hj : j < 29) : cellW P gm T lv (4 + n * 29 + j) = cellT (T n) j := by
 unfold cellW
 rw [if_neg (by omega), if_neg (by omega), if_neg (by omega), if_neg (by omega), if_pos (by omega), show (4 + n * 29 + j - 4) / 29 = n by omega, show (4 + n * 29 + j - 4) % 29 = j by omega]
theorem updW_T (P : PV) (gm : Nat) (T : Nat → TH) (lv : Value) (n : Nat) (hn : n < 3) (t : TH) (f : Nat → Value) (h1 : ∀ j, j < 29 → f (4 + n * 29 + j) = cellT t j) (h2 : ∀ i, (∀ j, j < 29 → i ≠ 4 + n * 29 + j) → f i = cellW P gm T lv i) : VA 92 f = VA 92 (cellW P gm (updF T n t) lv) := by
 refine VA_congr _ _ _ fun i hi => ?_
 by_cases hr : 4 + n * 29 ≤ i ∧ i < 4 + n * 29 + 29
 ·
  obtain ⟨j, hj, rfl⟩ : ∃ j, j < 29 ∧ i = 4 + n * 29 + j := ⟨i - (4 + n * 29), by omega, by omega⟩
  rw [h1 j hj, cellW_T _ _ _ _ _ _ hn hj, updF_same]
 ·
  rw [h2 i fun j hj => by omega]
  unfold cellW
  split
  ·
   rfl
  ·
   split
   ·
    rfl
   ·
    split
    ·
     rfl
    ·
     split
     ·
      rfl
     ·
      split
      ·
       rw [updF_other]
       omega
      ·
       rfl
theorem updW_one (P : PV) (gm : Nat) (T : Nat → TH) (lv : Value) (n j : Nat) (hn : n < 3) (hj : j < 29) (v : Value) (t : TH) (h : ∀ k, k < 29 → cellT t k = if k = j then v else cellT (T n) k) : VA 92 (updV (cellW P gm T lv) (4 + n * 29 + j) v) = VA 92 (cellW P gm (updF T n t) lv) :=
 updW_T P gm T lv n hn t _ (fun k hk => by
  unfold updV
  rw [h k hk]
  by_cases hkj : k = j
  ·
   rw [if_pos (by omega), if_pos hkj]
  ·
   rw [if_neg (by omega), if_neg hkj, cellW_T _ _ _ _ _ _ hn hk]) fun i hi => by
  unfold updV
  by_cases hij : i = 4 + n * 29 + j
  ·
   exact absurd hij (hi j hj)
  ·
   rw [if_neg hij]
def entA (kind thr : Int) (k : KL) (v : VS) (errno : Int) : Array Value := #[.int .i64 kind, .int .i64 thr, .int .u32 k.arch, .int .u32 k.nr, .int .u64 k.a0, .int .u64 k.a1, .int .u64 k.a2, .int .u64 k.a3,
 .string v.v0.path, .int .u32 v.v0.ip, .int .i64 v.v0.port, .string v.v1.path, .int .u32 v.v1.ip, .int .i64 v.v1.port, .string v.v2.path, .int .u32 v.v2.ip, .int .i64 v.v2.port, .string v.v3.path, .int .u32 v.v3.ip, .int .i64 v.v3.port, .int .i64 errno]
def entE (e : EN) : Array Value := entA e.kind e.thr e.call e.vals e.errno
def flatE (l : List EN) : List Value := l.flatMap fun e => (entE e).toList
theorem flatE_snoc (l : List EN) (e : EN) : flatE (l ++ [e]) = flatE l ++ (entE e).toList := by simp [flatE]
structure WX (g gm : Nat) (P : PV) (s : WS) (lv : Value) (W : World) : Prop where
 row : W.heap[g]? = some (.cells (VA 92 (cellW P gm s.T lv)) 79 (0, 0))
 mem : IsM gm s.mem W
 own : W.ownsRow 0 70 21 lv s.log.length (flatE s.log)
 ne : gm ≠ g
 nl : ∀ k, lv.ownBlock = some k → k ≠ g ∧ k ≠ gm
 bd : P.bd ≤ W.heap.size
 pol : ∀ V : World, (∀ k, k < P.bd → k ≠ g → k ≠ gm → lv.ownBlock ≠ some k → V.heap[k]? = W.heap[k]?) → P.bd ≤ V.heap.size → IsPol P.oa P.cap P.p V
structure Fr (g gm : Nat) (lv lv' : Value) (W V : World) : Prop where
 os : V.os = W.os
 tape : V.tape = W.tape
 output : V.output = W.output
 size : W.heap.size ≤ V.heap.size
 block : ∀ k, k < W.heap.size → k ≠ g → k ≠ gm → lv.ownBlock ≠ some k → V.heap[k]? = W.heap[k]?
 new : ∀ k, lv'.ownBlock = some k → lv.ownBlock = some k ∨ W.heap.size ≤ k
theorem Fr.refl (g gm : Nat) (lv : Value) (W : World) : Fr g gm lv lv W W := ⟨rfl, rfl, rfl, Nat.le_refl _, fun _ _ _ _ _ => rfl, fun _ h => .inl h⟩
theorem Fr.trans {g gm : Nat} {l1 l2 l3 : Value} {a b c : World} (h : Fr g gm l1 l2 a b) (k : Fr g gm l2 l3 b c) : Fr g gm l1 l3 a c :=
 ⟨k.os.trans h.os, k.tape.trans h.tape, k.output.trans h.output, Nat.le_trans h.size k.size, fun i hi h1 h2 h3 => (k.block i (Nat.lt_of_lt_of_le hi h.size) h1 h2 (fun e => by
  rcases h.new i e with h4 | h4
  ·
   exact h3 h4
  ·
   omega)).trans (h.block i hi h1 h2 h3), fun i hi => by
  rcases k.new i hi with h4 | h4
  ·
   exact h.new i h4
  ·
   exact .inr (Nat.le_trans h.size h4)⟩
theorem Fr.of {g gm : Nat} (lv : Value) {a b : World} (h : Below a.heap.size a b) : Fr g gm lv lv a b := ⟨h.os, h.tape, h.output, h.size, fun k hk _ _ _ => h.block k hk, fun _ h => .inl h⟩
theorem Fr.grown {g gm k0 : Nat} (lv : Value) {a b : World} (h : a.grownBy b (some k0)) (hk : k0 = g ∨ k0 = gm) : Fr g gm lv lv a b := ⟨h.os, h.tape, h.output, h.size, fun k hk1 h1 h2 _ => h.block k hk1 (fun e => by cases e; omega), fun _ h => .inl h⟩
theorem Fr.below {g gm B : Nat} {l1 l2 : Value} {w a b : World} (h : Fr g gm l1 l2 a b) (hb : Below B w a) (hB : B ≤ a.heap.size) (hg : B ≤ g) (hm : B ≤ gm) (hl : ∀ k, l1.ownBlock = some k → B ≤ k) : Below B w b := hb.trans ⟨h.os, h.tape, h.output, h.size, fun k hk => h.block k (by omega) (by omega) (by omega) (fun e => by have := hl k e; omega)⟩
theorem WX.glt {g gm : Nat} {P : PV} {s : WS} {lv : Value} {W : World} (h : WX g gm P s lv W) : g < W.heap.size := (Array.getElem?_eq_some_iff.1 h.row).1
theorem WX.mlt {g gm : Nat} {P : PV} {s : WS} {lv : Value} {W : World} (h : WX g gm P s lv W) : gm < W.heap.size := (Array.getElem?_eq_some_iff.1 h.mem).1
theorem WX.cell {g gm : Nat} {P : PV} {s : WS} {lv : Value} {W : World} (h : WX g gm P s lv W) (i : Nat) (hi : i < 92) : W.cell? ⟨g, i, none⟩ = some (cellW P gm s.T lv i) := by rw [cell_of_row _ _ i _ _ _ h.row]; exact VA_get _ _ _ hi
theorem WX.fro {g gm : Nat} {P : PV} {s : WS} {lv : Value} {W : World} (h : WX g gm P s lv W) (i : Nat) : W.frozen? ⟨g, i, none⟩ = false := frozen_of_row _ _ i _ _ h.row
theorem WX.th {g gm : Nat} {P : PV} {s : WS} {lv : Value} {W : World} (h : WX g gm P s lv W) (n j : Nat) (hn : n < 3) (hj : j < 29) : W.cell? ⟨g, 4 + n * 29 + j, none⟩ = some (cellT (s.T n) j) := by rw [h.cell _ (by omega), cellW_T _ _ _ _ _ _ hn hj]
theorem WX.phase {g gm : Nat} {P : PV} {s : WS} {lv : Value} {W : World} (h : WX g gm P s lv W) (n : Nat) (hn : n < 3) : W.cell? ⟨g, 4 + n * 29, none⟩ = some (.int .i64 (s.T n).phase) := h.th n 0 hn (by omega)
theorem WX.ptr {g gm : Nat} {P : PV} {s : WS} {lv : Value} {W : World} (h : WX g gm P s lv W) : W.cell? ⟨g, 3, none⟩ = some (.pointer (some ⟨gm, 0, none⟩)) := h.cell 3 (by omega)
theorem WX.logc {g gm : Nat} {P : PV} {s : WS} {lv : Value} {W : World} (h : WX g gm P s lv W) : W.cell? ⟨g, 91, none⟩ = some lv := h.cell 91 (by omega)
theorem cellT_call (t : TH) : cellT t 1 = .int .u32 t.call.arch ∧ cellT t 2 = .int .u32 t.call.nr ∧ cellT t 3 = .int .u64 t.call.a0 ∧ cellT t 4 = .int .u64 t.call.a1 ∧ cellT t 5 = .int .u64 t.call.a2 ∧ cellT t 6 = .int .u64 t.call.a3 := ⟨rfl, rfl, rfl, rfl, rfl, rfl⟩
theorem cellT_arg (t : TH) (i : Nat) (hi : i < 4) : cellT t (7 + i) = .int .u64 (t.args i) := by
 unfold cellT
 rw [if_neg (by omega), if_neg (by omega), if_neg (by omega), if_neg (by omega), if_pos (by omega), show 7 + i - 7 = i by omega]
theorem cellT_sld (t : TH) (i : Nat) (hi : i < 4) : cellT t (11 + i) = .bool (t.sld i) := by
 unfold cellT
 rw [if_neg (by omega), if_neg (by omega), if_neg (by omega), if_neg (by omega), if_neg (by omega), if_pos (by omega), show 11 + i - 11 = i by omega]
theorem cellT_val (t : TH) (i : Nat) : cellT t (17 + i * 3) = .string (t.vals i).path ∧ cellT t (17 + i * 3 + 1) = .int .u32 (t.vals i).ip ∧ cellT t (17 + i * 3 + 2) = .int .i64 (t.vals i).port := by
 unfold cellT
 refine ⟨?_, ?_, ?_⟩
 ·
  rw [if_neg (by omega), if_neg (by omega), if_neg (by omega), if_neg (by omega), if_neg (by omega), if_neg (by omega), if_neg (by omega), if_neg (by omega), if_pos (by omega), show (17 + i * 3 - 17) / 3 = i by omega]
 ·
  rw [if_neg (by omega), if_neg (by omega), if_neg (by omega), if_neg (by omega), if_neg (by omega), if_neg (by omega), if_neg (by omega), if_neg (by omega), if_neg (by omega), if_pos (by omega), show (17 + i * 3 + 1 - 17) / 3 = i by omega]
 ·
  rw [if_neg (by omega), if_neg (by omega), if_neg (by omega), if_neg (by omega), if_neg (by omega), if_neg (by omega), if_neg (by omega), if_neg (by omega), if_neg (by omega), if_neg (by omega), show (17 + i * 3 + 2 - 17) / 3 = i by omega]
theorem own_keep {W V : World} {base e size n : Nat} {v : Value} {xs : List Value} {k : Nat} (h : W.ownsRow base e size v n xs) (hg : W.grownBy V (some k)) (hne : v.ownBlock ≠ some k) : V.ownsRow base e size v n xs := h.kept hg (.inr hne)
theorem WX.on {g gm : Nat} {P : PV} {s : WS} {lv : Value} {W V : World} (h : WX g gm P s lv W) (hb : Below W.heap.size W V) : WX g gm P s lv V :=
 ⟨(hb.block g h.glt).trans h.row, h.mem.on hb, own_on h.own hb, h.ne, h.nl, Nat.le_trans h.bd hb.size, fun U hU hs => h.pol U (fun k hk h1 h2 h3 => (hU k hk h1 h2 h3).trans (hb.block k (Nat.lt_of_lt_of_le hk h.bd))) hs⟩
theorem WX.memo {g gm : Nat} {P : PV} {s : WS} {lv : Value} {W V : World} (h : WX g gm P s lv W) {m : MS} (hm : IsM gm m V) (hg : W.grownBy V (some gm)) : WX g gm P { s with mem := m } lv V :=
 ⟨(hg.block g h.glt (fun e => h.ne (Option.some.inj e).symm)).trans h.row, hm, own_keep h.own hg (fun e => (h.nl gm e).2 rfl), h.ne, h.nl, Nat.le_trans h.bd hg.size, fun U hU hs => h.pol U (fun k hk h1 h2 h3 => (hU k hk h1 h2 h3).trans (hg.block k (Nat.lt_of_lt_of_le hk h.bd) (fun e => h2 (Option.some.inj e)))) hs⟩
theorem setRow_grown (W : World) (g : Nat) (c : Array Value) : W.grownBy (W.setRow g c) (some g) := ⟨rfl, rfl, rfl, by rw [row_size]; exact Nat.le_refl _, fun k _ hn => row_heap W g k c (fun e => hn (by rw [e]))⟩
theorem WX.rows {g gm : Nat} {P : PV} {s : WS} {lv : Value} {W : World} (h : WX g gm P s lv W) (T : Nat → TH) {c : Array Value} (hc : c = VA 92 (cellW P gm T lv)) : WX g gm P { s with T := T } lv (W.setRow g c) := by
 have hg := setRow_grown W g c
 refine ⟨by rw [← hc]; exact setRow_heap _ _ _ _ _ _ h.row, (hg.block gm h.mlt (fun e => h.ne (Option.some.inj e))).trans h.mem, own_keep h.own hg (fun e => (h.nl g e).1 rfl), h.ne, h.nl, by rw [row_size]; exact h.bd, fun U hU hs => h.pol U (fun k hk h1 h2 h3 => (hU k hk h1 h2 h3).trans (row_heap W g k c h1)) hs⟩
theorem WX.setT {g gm : Nat} {P : PV} {s : WS} {lv : Value} {W : World} (h : WX g gm P s lv W) (n j : Nat) (hn : n < 3) (hj : j < 29) (v : Value) (t : TH) (hc : ∀ k, k < 29 → cellT t k = if k = j then v else cellT (s.T n) k) : WX g gm P (s.put n t) lv (W.setCell ⟨g, 4 + n * 29 + j, none⟩ v) := by
 rw [setCell_eq_setRow _ _ _ _ _ _ _ h.row, VA_set]
 exact h.rows _ (updW_one P gm s.T lv n j hn hj v t hc)
theorem Fr.set {g gm : Nat} (lv : Value) (W : World) (o : Nat) (v : Value) : Fr g gm lv lv W (W.setCell ⟨g, o, none⟩ v) := Fr.grown lv (k0 := g) (But.set g o W v).grown (.inl rfl)
theorem WX.other {g gm : Nat} {P : PV} {s : WS} {lv : Value} {W V : World} (h : WX g gm P s lv W) {r : Nat} (hg : W.grownBy V (some r)) (h1 : r ≠ g) (h2 : r ≠ gm) (h3 : lv.ownBlock ≠ some r) (hb : P.bd ≤ r) : WX g gm P s lv V :=
 ⟨(hg.block g h.glt (fun e => h1 (Option.some.inj e).symm)).trans h.row, (hg.block gm h.mlt (fun e => h2 (Option.some.inj e).symm)).trans h.mem, own_keep h.own hg h3, h.ne, h.nl, Nat.le_trans h.bd hg.size, fun U hU hs => h.pol U (fun k hk q1 q2 q3 => (hU k hk q1 q2 q3).trans (hg.block k (Nat.lt_of_lt_of_le hk h.bd) (fun e => by cases e; omega))) hs⟩
theorem WX.more {g gm : Nat} {P : PV} {s : WS} {lv lv' : Value} {W V : World} (h : WX g gm P s lv W) {l : List EN} (hg : W.grownBy V lv.ownBlock) (hl : ∀ k, lv'.ownBlock = some k → lv.ownBlock = some k ∨ W.heap.size ≤ k) (ho : V.ownsRow 0 70 21 lv' l.length (flatE l)) :
  WX g gm P { s with log := l } lv' (V.setCell ⟨g, 91, none⟩ lv') := by
 have hrow : V.heap[g]? = some (.cells (VA 92 (cellW P gm s.T lv)) 79 (0, 0)) := (hg.block g h.glt (fun e => (h.nl g e.symm).1 rfl)).trans h.row
 have hmem : IsM gm s.mem V := (hg.block gm h.mlt (fun e => (h.nl gm e.symm).2 rfl)).trans h.mem
 have hnl : ∀ k, lv'.ownBlock = some k → k ≠ g ∧ k ≠ gm := fun k hk => by
  rcases hl k hk with h1 | h1
  ·
   exact h.nl k h1
  ·
   have := h.glt
   have := h.mlt
   exact ⟨by omega, by omega⟩
 have hset : V.setCell ⟨g, 91, none⟩ lv' = V.setRow g (VA 92 (cellW P gm s.T lv')) := by
  rw [setCell_eq_setRow _ _ 91 _ _ _ _ hrow, VA_set]
  congr 1
  refine VA_congr _ _ _ fun i hi => ?_
  unfold updV cellW
  by_cases hi91 : i = 91
  ·
   subst hi91
   rfl
  ·
   rw [if_neg hi91]
   split
   ·
    rfl
   ·
    split
    ·
     rfl
    ·
     split
     ·
      rfl
     ·
      split
      ·
       rfl
      ·
       rw [if_pos (by omega), if_pos (by omega)]
 rw [hset]
 have hg2 := setRow_grown V g (VA 92 (cellW P gm s.T lv'))
 have hgl : g < V.heap.size := (Array.getElem?_eq_some_iff.1 hrow).1
 refine ⟨setRow_heap _ _ _ _ _ _ hrow, (hg2.block gm (Array.getElem?_eq_some_iff.1 hmem).1 (fun e => h.ne (Option.some.inj e))).trans hmem, own_keep ho hg2 (fun e => (hnl g e).1 rfl), h.ne, hnl, by rw [row_size]; exact Nat.le_trans h.bd hg.size, fun U hU hs => h.pol U (fun k hk h1 h2 h3 => ?_) hs⟩
 have h4 : lv'.ownBlock ≠ some k := fun e => by
  rcases hl k e with h5 | h5
  ·
   exact h3 h5
  ·
   have := h.bd; omega
 exact ((hU k hk h1 h2 h4).trans (row_heap V g k _ h1)).trans (hg.block k (Nat.lt_of_lt_of_le hk h.bd) (fun e => h3 e.symm))
theorem WX.setPhase {g gm : Nat} {P : PV} {s : WS} {lv : Value} {W : World} (h : WX g gm P s lv W) (n k : Nat) (hn : n < 3) : WX g gm P (s.put n { s.T n with phase := k }) lv (W.setCell ⟨g, 4 + n * 29, none⟩ (.int .i64 k)) :=
 h.setT n 0 hn (by omega) _ _ fun j _ => by
  by_cases hj : j = 0
  ·
   subst hj; rfl
  ·
   rw [if_neg hj]; unfold cellT; rw [if_neg hj, if_neg hj]
end Go.Proofs.YtklibmijiecbfaaGreat

/- The document's ward in memory: its block, cell by cell. -/
namespace Go.Proofs.YtklibmijiecbfaaGreat
open Go.RowKit Mm

def cellDT (t : DT) (sv : Value) (j : Nat) : Value :=
 if j = 0 then .int .i64 t.phase else if j = 1 then .int .u32 t.asked.arch else if j = 2 then .int .u32 t.asked.nr else if j < 7 then .int .u64 (regN t.asked (j - 3))
 else if j = 7 then .int .u32 t.asked.arch else if j = 8 then .int .u32 t.asked.nr else if j < 13 then .int .u64 (t.now (j - 9)) else if j < 17 then .string (bs (t.texts (j - 13)))
 else if j = 17 then .int .i64 t.arg else if j = 30 then sv
 else if (j - 18) % 3 = 0 then .string (t.vals ((j - 18) / 3)).path else if (j - 18) % 3 = 1 then .int .u32 (t.vals ((j - 18) / 3)).ip else .int .i64 (t.vals ((j - 18) / 3)).port
def fD (P : PV) (T : Nat → DT) (sv : Nat → Value) (lv : Value) (i : Nat) : Value :=
 if i = 0 then .slice P.oa P.p.rules.length P.cap else if i = 1 then .int .i64 P.p.els.kind else if i = 2 then .int .i64 P.p.els.errno
 else if i < 876 then cellDT (T ((i - 783) / 31)) (sv ((i - 783) / 31)) ((i - 783) % 31) else lv
theorem fD_T (P : PV) (T : Nat → DT) (sv : Nat → Value) (lv : Value) (n j : Nat) (hn : n < 3) (hj : j < 31) : fD P T sv lv (783 + n * 31 + j) = cellDT (T n) (sv n) j := by
 unfold fD
 rw [if_neg (by omega), if_neg (by omega), if_neg (by omega), if_pos (by omega), show (783 + n * 31 + j - 783) / 31 = n by omega, show (783 + n * 31 + j - 783) % 31 = j by omega]
def LD (g : Nat) (P : PV) (T : Nat → DT) (sv : Nat → Value) (lv : Value) : Vr.LY := ⟨g, 3, 877, 95, fD P T sv lv, by omega⟩
def u64L (l : List Nat) : List Value := l.map fun x => Value.int .u64 (x : Nat)
structure DX (g : Nat) (P : PV) (d : DWS) (sv : Nat → Value) (lv : Value) (W : World) : Prop where
 mem : Vr.IsD (LD g P d.T sv lv) d.mem W
 own : W.ownsRow 0 70 21 lv d.log.length (flatE d.log)
 sls : ∀ n, n < 3 → W.ownsRow 0 42 1 (sv n) (d.T n).seals.length (u64L (d.T n).seals)
 nl : lv.ownBlock ≠ some g ∧ ∀ n, n < 3 → (sv n).ownBlock ≠ some g
 ap : ∀ n k, n < 3 → (sv n).ownBlock = some k → lv.ownBlock ≠ some k ∧ ∀ m, m < 3 → m ≠ n → (sv m).ownBlock ≠ some k
 bd : P.bd ≤ W.heap.size
 pol : ∀ V : World, (∀ k, k < P.bd → k ≠ g → lv.ownBlock ≠ some k → (∀ n, n < 3 → (sv n).ownBlock ≠ some k) → V.heap[k]? = W.heap[k]?) → P.bd ≤ V.heap.size → IsPol P.oa P.cap P.p V
theorem DX.glt {g : Nat} {P : PV} {d : DWS} {sv : Nat → Value} {lv : Value} {W : World} (h : DX g P d sv lv W) : g < W.heap.size := h.mem.lt
theorem DX.cell {g : Nat} {P : PV} {d : DWS} {sv : Nat → Value} {lv : Value} {W : World} (h : DX g P d sv lv W) (i : Nat) (hi : i < 877) (hm : i < 3 ∨ 783 ≤ i) : W.cell? ⟨g, i, none⟩ = some (fD P d.T sv lv i) := by
 obtain ⟨r, hr, _⟩ := h.mem
 replace hr : W.heap[g]? = some (.cells (VA 877 (Vr.lay (LD g P d.T sv lv) r)) 95 (0, 0)) := hr
 rw [cell_of_row _ _ i _ _ _ hr]
 show (VA 877 (Vr.lay (LD g P d.T sv lv) r))[i]? = _
 rw [VA_get _ _ _ hi, Vr.lay_out]
 ·
  rfl
 ·
  show ¬ (3 ≤ i ∧ i < 3 + 780)
  omega
theorem DX.fro {g : Nat} {P : PV} {d : DWS} {sv : Nat → Value} {lv : Value} {W : World} (h : DX g P d sv lv W) (i : Nat) : W.frozen? ⟨g, i, none⟩ = false := by
 obtain ⟨r, hr, _⟩ := h.mem
 replace hr : W.heap[g]? = some (.cells (VA 877 (Vr.lay (LD g P d.T sv lv) r)) 95 (0, 0)) := hr
 exact frozen_of_row _ _ i _ _ hr
theorem DX.th {g : Nat} {P : PV} {d : DWS} {sv : Nat → Value} {lv : Value} {W : World} (h : DX g P d sv lv W) (n j : Nat) (hn : n < 3) (hj : j < 31) : W.cell? ⟨g, 783 + n * 31 + j, none⟩ = some (cellDT (d.T n) (sv n) j) := by
 rw [h.cell _ (by omega) (.inr (by omega)), fD_T _ _ _ _ _ _ hn hj]
theorem DX.on {g : Nat} {P : PV} {d : DWS} {sv : Nat → Value} {lv : Value} {W V : World} (h : DX g P d sv lv W) (hb : Below W.heap.size W V) : DX g P d sv lv V :=
 ⟨h.mem.on hb, own_on h.own hb, fun n hn => own_on (h.sls n hn) hb, h.nl, h.ap, Nat.le_trans h.bd hb.size, fun U hU hs => h.pol U (fun k hk h1 h2 h3 => (hU k hk h1 h2 h3).trans (hb.block k (Nat.lt_of_lt_of_le hk h.bd))) hs⟩
theorem DX.memo {g : Nat} {P : PV} {d : DWS} {sv : Nat → Value} {lv : Value} {W V : World} (h : DX g P d sv lv W) {m : MS} (hm : Vr.IsD (LD g P d.T sv lv) m V) (hg : W.grownBy V (some g)) : DX g P { d with mem := m } sv lv V :=
 ⟨hm, own_keep h.own hg h.nl.1, fun n hn => own_keep (h.sls n hn) hg (h.nl.2 n hn), h.nl, h.ap, Nat.le_trans h.bd hg.size, fun U hU hs => h.pol U (fun k hk h1 h2 h3 => (hU k hk h1 h2 h3).trans (hg.block k (Nat.lt_of_lt_of_le hk h.bd) (fun e => h1 (Option.some.inj e)))) hs⟩
theorem DX.rows {g : Nat} {P : PV} {d : DWS} {sv : Nat → Value} {lv : Value} {W : World} (h : DX g P d sv lv W) (n : Nat) (hn : n < 3) (t : DT) (hs : t.seals = (d.T n).seals) (f : Nat → Value) (h1 : ∀ j, j < 31 → f (783 + n * 31 + j) = cellDT t (sv n) j)
  (r : RS) (hr : W.heap[g]? = some (.cells (VA 877 (Vr.lay (LD g P d.T sv lv) r)) 95 (0, 0))) (hrel : Rel d.mem r) (h2 : ∀ i, (∀ j, j < 31 → i ≠ 783 + n * 31 + j) → f i = Vr.lay (LD g P d.T sv lv) r i) : DX g P (d.put n t) sv lv (W.setRow g (VA 877 f)) := by
 have hg := setRow_grown W g (VA 877 f)
 have hrow : (W.setRow g (VA 877 f)).heap[g]? = some (.cells (VA 877 f) 95 (0, 0)) := setRow_heap _ _ _ _ _ _ hr
 have hf : VA 877 f = VA 877 (Vr.lay (LD g P (d.put n t).T sv lv) r) := VA_congr _ _ _ fun i hi => by
  by_cases hin : 783 + n * 31 ≤ i ∧ i < 783 + n * 31 + 31
  ·
   obtain ⟨j, hj, rfl⟩ : ∃ j, j < 31 ∧ i = 783 + n * 31 + j := ⟨i - (783 + n * 31), by omega, by omega⟩
   rw [h1 j hj, Vr.lay_out _ _ _ (by show ¬ (3 ≤ _ ∧ _ < 3 + 780); omega)]
   show _ = fD P (updF d.T n t) sv lv _
   rw [fD_T _ _ _ _ _ _ hn hj, updF_same]
  ·
   rw [h2 i fun j hj => by omega]
   unfold Vr.lay
   by_cases hm : 3 ≤ i ∧ i < 3 + 780
   ·
    rw [if_pos (show (LD g P d.T sv lv).o ≤ i ∧ i < (LD g P d.T sv lv).o + 780 from hm), if_pos (show (LD g P (d.put n t).T sv lv).o ≤ i ∧ i < (LD g P (d.put n t).T sv lv).o + 780 from hm)]
    rfl
   ·
    rw [if_neg (show ¬ ((LD g P d.T sv lv).o ≤ i ∧ i < (LD g P d.T sv lv).o + 780) from hm), if_neg (show ¬ ((LD g P (d.put n t).T sv lv).o ≤ i ∧ i < (LD g P (d.put n t).T sv lv).o + 780) from hm)]
    show fD P d.T sv lv i = fD P (updF d.T n t) sv lv i
    unfold fD
    split
    ·
     rfl
    ·
     split
     ·
      rfl
     ·
      split
      ·
       rfl
      ·
       split
       ·
        rw [updF_other _ _ (by omega)]
       ·
        rfl
 refine ⟨⟨r, by rw [hf] at hrow ⊢; exact hrow, hrel⟩, own_keep h.own hg h.nl.1, fun k hk => ?_, h.nl, h.ap, by rw [row_size]; exact h.bd, fun U hU hs => h.pol U (fun k hk q1 q2 q3 => (hU k hk q1 q2 q3).trans (row_heap W g k _ q1)) hs⟩
 have := own_keep (h.sls k hk) hg (h.nl.2 k hk)
 show (W.setRow g _).ownsRow 0 42 1 (sv k) (updF d.T n t k).seals.length (u64L (updF d.T n t k).seals)
 by_cases hkn : k = n
 ·
  subst hkn; rw [updF_same, hs]; exact this
 ·
  rw [updF_other _ _ hkn]; exact this
theorem DX.setT {g : Nat} {P : PV} {d : DWS} {sv : Nat → Value} {lv : Value} {W : World} (h : DX g P d sv lv W) (n j : Nat) (hn : n < 3) (hj : j < 31) (v : Value) (t : DT) (hs : t.seals = (d.T n).seals) (hc : ∀ k, k < 31 → cellDT t (sv n) k = if k = j then v else cellDT (d.T n) (sv n) k) : DX g P (d.put n t) sv lv (W.setCell ⟨g, 783 + n * 31 + j, none⟩ v) := by
 obtain ⟨r, hr, hrel⟩ := h.mem
 replace hr : W.heap[g]? = some (.cells (VA 877 (Vr.lay (LD g P d.T sv lv) r)) 95 (0, 0)) := hr
 rw [setCell_eq_setRow _ _ _ _ _ _ _ hr, VA_set]
 refine h.rows n hn t hs _ (fun k hk => ?_) r hr hrel (fun i hi => ?_)
 ·
  unfold updV
  rw [hc k hk]
  by_cases hkj : k = j
  ·
   rw [if_pos (by omega), if_pos hkj]
  ·
   rw [if_neg (by omega), if_neg hkj, Vr.lay_out _ _ _ (by show ¬ (3 ≤ _ ∧ _ < 3 + 780); omega)]
   exact fD_T _ _ _ _ _ _ hn hk
 ·
  unfold updV
  rw [if_neg (hi j hj)]
end Go.Proofs.YtklibmijiecbfaaGreat

/- The document's ward: what turns of it. -/
namespace Go.Proofs.YtklibmijiecbfaaGreat
open Go.RowKit Mm

structure DFr (g : Nat) (sv : Nat → Value) (lv : Value) (sv' : Nat → Value) (lv' : Value) (W V : World) : Prop where
 os : V.os = W.os
 tape : V.tape = W.tape
 output : V.output = W.output
 size : W.heap.size ≤ V.heap.size
 block : ∀ k, k < W.heap.size → k ≠ g → lv.ownBlock ≠ some k → (∀ n, n < 3 → (sv n).ownBlock ≠ some k) → V.heap[k]? = W.heap[k]?
 newl : ∀ k, lv'.ownBlock = some k → lv.ownBlock = some k ∨ W.heap.size ≤ k
 news : ∀ n, n < 3 → ∀ k, (sv' n).ownBlock = some k → (sv n).ownBlock = some k ∨ W.heap.size ≤ k
theorem DFr.trans {g : Nat} {s1 s2 s3 : Nat → Value} {l1 l2 l3 : Value} {a b c : World} (h : DFr g s1 l1 s2 l2 a b) (k : DFr g s2 l2 s3 l3 b c) : DFr g s1 l1 s3 l3 a c :=
 ⟨k.os.trans h.os, k.tape.trans h.tape, k.output.trans h.output, Nat.le_trans h.size k.size, fun i hi h1 h2 h3 => (k.block i (Nat.lt_of_lt_of_le hi h.size) h1 (fun e => by
  rcases h.newl i e with h4 | h4
  ·
   exact h2 h4
  ·
   omega) (fun n hn e => by
  rcases h.news n hn i e with h4 | h4
  ·
   exact h3 n hn h4
  ·
   omega)).trans (h.block i hi h1 h2 h3), fun i hi => by
  rcases k.newl i hi with h4 | h4
  ·
   exact h.newl i h4
  ·
   exact .inr (Nat.le_trans h.size h4), fun n hn i hi => by
  rcases k.news n hn i hi with h4 | h4
  ·
   exact h.news n hn i h4
  ·
   exact .inr (Nat.le_trans h.size h4)⟩
theorem DFr.of {g : Nat} (sv : Nat → Value) (lv : Value) {a b : World} (h : Below a.heap.size a b) : DFr g sv lv sv lv a b := ⟨h.os, h.tape, h.output, h.size, fun k hk _ _ _ => h.block k hk, fun _ h => .inl h, fun _ _ _ h => .inl h⟩
theorem DFr.refl (g : Nat) (sv : Nat → Value) (lv : Value) (W : World) : DFr g sv lv sv lv W W := DFr.of sv lv (Below.refl _ _)
theorem DFr.grown {g : Nat} (sv : Nat → Value) (lv : Value) {a b : World} (h : a.grownBy b (some g)) : DFr g sv lv sv lv a b := ⟨h.os, h.tape, h.output, h.size, fun k hk1 h1 _ _ => h.block k hk1 (fun e => by cases e; omega), fun _ h => .inl h, fun _ _ _ h => .inl h⟩
theorem DFr.set {g : Nat} (sv : Nat → Value) (lv : Value) (W : World) (o : Nat) (v : Value) : DFr g sv lv sv lv W (W.setCell ⟨g, o, none⟩ v) := DFr.grown sv lv (But.set g o W v).grown
theorem DX.gen {g : Nat} {P : PV} {d d' : DWS} {sv sv' : Nat → Value} {lv lv' : Value} {W V : World} (h : DX g P d sv lv W) (fr : DFr g sv lv sv' lv' W V) (mem : Vr.IsD (LD g P d'.T sv' lv') d'.mem V) (own : V.ownsRow 0 70 21 lv' d'.log.length (flatE d'.log))
  (sls : ∀ n, n < 3 → V.ownsRow 0 42 1 (sv' n) (d'.T n).seals.length (u64L (d'.T n).seals)) (ap : ∀ n k, n < 3 → (sv' n).ownBlock = some k → lv'.ownBlock ≠ some k ∧ ∀ m, m < 3 → m ≠ n → (sv' m).ownBlock ≠ some k) : DX g P d' sv' lv' V := by
 have hg := h.glt
 refine ⟨mem, own, sls, ⟨fun e => ?_, fun n hn e => ?_⟩, ap, Nat.le_trans h.bd fr.size, fun U hU hs => h.pol U (fun k hk h1 h2 h3 => ?_) hs⟩
 ·
  rcases fr.newl g e with h1 | h1
  ·
   exact h.nl.1 h1
  ·
   omega
 ·
  rcases fr.news n hn g e with h1 | h1
  ·
   exact h.nl.2 n hn h1
  ·
   omega
 ·
  have hb := h.bd
  refine (hU k hk h1 (fun e => ?_) (fun n hn e => ?_)).trans (fr.block k (by omega) h1 h2 h3)
  ·
   rcases fr.newl k e with h4 | h4
   ·
    exact h2 h4
   ·
    omega
  ·
   rcases fr.news n hn k e with h4 | h4
   ·
    exact h3 n hn h4
   ·
    omega
theorem isD_row {g : Nat} {P : PV} {T T' : Nat → DT} {sv sv' : Nat → Value} {lv lv' : Value} {m : MS} {r : RS} {W : World} (hr : W.heap[g]? = some (.cells (VA 877 (Vr.lay (LD g P T sv lv) r)) 95 (0, 0))) (hrel : Rel m r) (f : Nat → Value) (h1 : ∀ j, 3 ≤ j → j < 783 → f j = cellR r (j - 3)) (h2 : ∀ j, j < 877 → (j < 3 ∨ 783 ≤ j) → f j = fD P T' sv' lv' j) :
  Vr.IsD (LD g P T' sv' lv') m (W.setRow g (VA 877 f)) := by
 refine ⟨r, ?_, hrel⟩
 show (W.setRow g (VA 877 f)).heap[g]? = some (.cells (VA 877 (Vr.lay (LD g P T' sv' lv') r)) 95 (0, 0))
 rw [setRow_heap _ _ _ _ _ _ hr, VA_congr 877 f (Vr.lay (LD g P T' sv' lv') r) fun j hj => ?_]
 by_cases hm : 3 ≤ j ∧ j < 783
 ·
  rw [h1 j hm.1 hm.2]
  unfold Vr.lay
  rw [if_pos (show (LD g P T' sv' lv').o ≤ j ∧ j < (LD g P T' sv' lv').o + 780 from by show 3 ≤ j ∧ j < 3 + 780; omega)]
  rfl
 ·
  rw [h2 j hj (by omega), Vr.lay_out _ _ _ (by show ¬ (3 ≤ j ∧ j < 3 + 780); omega)]
  rfl
theorem lay_mem {g : Nat} {P : PV} {T : Nat → DT} {sv : Nat → Value} {lv : Value} {r : RS} (j : Nat) (h1 : 3 ≤ j) (h2 : j < 783) : Vr.lay (LD g P T sv lv) r j = cellR r (j - 3) := by
 unfold Vr.lay
 rw [if_pos (show (LD g P T sv lv).o ≤ j ∧ j < (LD g P T sv lv).o + 780 from by show 3 ≤ j ∧ j < 3 + 780; omega)]
 rfl
theorem lay_far {g : Nat} {P : PV} {T : Nat → DT} {sv : Nat → Value} {lv : Value} {r : RS} (j : Nat) (h : j < 3 ∨ 783 ≤ j) : Vr.lay (LD g P T sv lv) r j = fD P T sv lv j := by
 rw [Vr.lay_out _ _ _ (by show ¬ (3 ≤ j ∧ j < 3 + 780); omega)]
 rfl
theorem isD_set {g : Nat} {P : PV} {T T' : Nat → DT} {sv sv' : Nat → Value} {lv lv' : Value} {m : MS} {W : World} (h : Vr.IsD (LD g P T sv lv) m W) (i : Nat) (ho : i < 3 ∨ 783 ≤ i) (v : Value) (he : ∀ j, j < 877 → (j < 3 ∨ 783 ≤ j) → fD P T' sv' lv' j = if j = i then v else fD P T sv lv j) :
  Vr.IsD (LD g P T' sv' lv') m (W.setCell ⟨g, i, none⟩ v) := by
 obtain ⟨r, hr, hrel⟩ := h
 replace hr : W.heap[g]? = some (.cells (VA 877 (Vr.lay (LD g P T sv lv) r)) 95 (0, 0)) := hr
 rw [setCell_eq_setRow _ _ _ _ _ _ _ hr, VA_set]
 refine isD_row hr hrel _ (fun j h1 h2 => ?_) (fun j hj hf => ?_)
 ·
  unfold updV
  rw [if_neg (by omega), lay_mem j h1 h2]
 ·
  unfold updV
  rw [he j hj hf, lay_far j hf]
theorem isD_sets {g : Nat} {P : PV} {T T' : Nat → DT} {sv sv' : Nat → Value} {lv lv' : Value} {m : MS} {W : World} (h : Vr.IsD (LD g P T sv lv) m W) (o : Nat) (ho : 783 ≤ o) (l : List Value) (he : ∀ j, j < 877 → (j < 3 ∨ 783 ≤ j) → fD P T' sv' lv' j = if o ≤ j ∧ j < o + l.length then l.getD (j - o) undef else fD P T sv lv j) :
  Vr.IsD (LD g P T' sv' lv') m (W.setCells g o l) := by
 obtain ⟨r, hr, hrel⟩ := h
 replace hr : W.heap[g]? = some (.cells (VA 877 (Vr.lay (LD g P T sv lv) r)) 95 (0, 0)) := hr
 rw [Vr.ovr_VA 877 g 95 l o _ W hr]
 refine isD_row hr hrel _ (fun j h1 h2 => ?_) (fun j hj hf => ?_)
 ·
  unfold Vr.ovr
  rw [if_neg (by omega), lay_mem j h1 h2]
 ·
  unfold Vr.ovr
  rw [he j hj hf, lay_far j hf]
theorem fD_th (P : PV) (T : Nat → DT) (sv : Nat → Value) (lv : Value) (n : Nat) (t : DT) (v' : Value) (j : Nat) (hj : j < 877) (hf : j < 3 ∨ 783 ≤ j) : fD P (updF T n t) (updF sv n v') lv j = if 783 + n * 31 ≤ j ∧ j < 783 + n * 31 + 31 ∧ n < 3 then cellDT t v' (j - (783 + n * 31)) else fD P T sv lv j := by
 unfold fD
 by_cases h0 : j = 0
 ·
  rw [if_pos h0, if_pos h0, if_neg (by omega)]
 ·
  rw [if_neg h0, if_neg h0]
  by_cases h1 : j = 1
  ·
   rw [if_pos h1, if_pos h1, if_neg (by omega)]
  ·
   rw [if_neg h1, if_neg h1]
   by_cases h2 : j = 2
   ·
    rw [if_pos h2, if_pos h2, if_neg (by omega)]
   ·
    rw [if_neg h2, if_neg h2]
    by_cases h8 : j < 876
    ·
     rw [if_pos h8, if_pos h8]
     by_cases hn : (j - 783) / 31 = n
     ·
      rw [if_pos (by omega), hn, updF_same, updF_same, show (j - 783) % 31 = j - (783 + n * 31) by omega]
     ·
      rw [if_neg (by omega), updF_other _ _ hn, updF_other _ _ hn]
    ·
     rw [if_neg h8, if_neg h8, if_neg (by omega)]
theorem fD_lv (P : PV) (T : Nat → DT) (sv : Nat → Value) (lv lv' : Value) (j : Nat) (hj : j < 877) (_hf : j < 3 ∨ 783 ≤ j) : fD P T sv lv' j = if j = 876 then lv' else fD P T sv lv j := by
 unfold fD
 by_cases h0 : j = 0
 ·
  rw [if_pos h0, if_pos h0, if_neg (by omega)]
 ·
  rw [if_neg h0, if_neg h0]
  by_cases h1 : j = 1
  ·
   rw [if_pos h1, if_pos h1, if_neg (by omega)]
  ·
   rw [if_neg h1, if_neg h1]
   by_cases h2 : j = 2
   ·
    rw [if_pos h2, if_pos h2, if_neg (by omega)]
   ·
    rw [if_neg h2, if_neg h2]
    by_cases h8 : j < 876
    ·
     rw [if_pos h8, if_pos h8, if_neg (by omega)]
    ·
     rw [if_neg h8, if_pos (by omega)]
theorem cellDT_sv (t : DT) (v v' : Value) (l : List Nat) (k : Nat) : cellDT { t with seals := l } v' k = if k = 30 then v' else cellDT t v k := by
 by_cases h : k = 30
 ·
  subst h; rfl
 ·
  rw [if_neg h]
  unfold cellDT
  simp only [if_neg h]
theorem DX.seals {g : Nat} {P : PV} {d : DWS} {sv : Nat → Value} {lv : Value} {W V : World} (h : DX g P d sv lv W) (n : Nat) (hn : n < 3) {l : List Nat} {v' : Value} (hg : W.grownBy V (sv n).ownBlock) (hl : ∀ k, v'.ownBlock = some k → (sv n).ownBlock = some k ∨ W.heap.size ≤ k) (ho : V.ownsRow 0 42 1 v' l.length (u64L l)) :
  DX g P (d.put n { d.T n with seals := l }) (updF sv n v') lv (V.setCell ⟨g, 783 + n * 31 + 30, none⟩ v') ∧ DFr g sv lv (updF sv n v') lv W (V.setCell ⟨g, 783 + n * 31 + 30, none⟩ v') := by
 have hgl := h.glt
 have hgn := h.nl.2 n hn
 have hv'g : v'.ownBlock ≠ some g := fun e => by
  rcases hl g e with h1 | h1
  ·
   exact hgn h1
  ·
   omega
 have hs := (But.set g (783 + n * 31 + 30) V v').grown
 have hfr : DFr g sv lv (updF sv n v') lv W (V.setCell ⟨g, 783 + n * 31 + 30, none⟩ v') := by
  refine ⟨hs.os.trans hg.os, hs.tape.trans hg.tape, hs.output.trans hg.output, Nat.le_trans hg.size hs.size, fun k hk h1 h2 h3 => ?_, fun _ h => .inl h, fun m hm k hk => ?_⟩
  ·
   exact (hs.block k (Nat.lt_of_lt_of_le hk hg.size) (fun e => h1 (Option.some.inj e))).trans (hg.block k hk (fun e => h3 n hn e.symm))
  ·
   by_cases hmn : m = n
   ·
    subst hmn; rw [updF_same] at hk; exact hl k hk
   ·
    rw [updF_other _ _ hmn] at hk; exact .inl hk
 have hlt : ∀ m, m < 3 → ∀ k, (sv m).ownBlock = some k → k < W.heap.size := fun m hm k hk => ((h.sls m hm).lt k hk).2
 have hll : ∀ k, lv.ownBlock = some k → k < W.heap.size := fun k hk => (h.own.lt k hk).2
 refine ⟨h.gen hfr ?_ ?_ ?_ ?_, hfr⟩
 ·
  refine isD_set (h.mem.imp fun r hr => ⟨(hg.block g hgl (fun e => hgn e.symm)).trans hr.1, hr.2⟩) _ (.inr (by omega)) _ (fun j hj hf => ?_)
  show fD P (updF d.T n _) (updF sv n v') lv j = _
  rw [fD_th _ _ _ _ _ _ _ _ hj hf]
  by_cases hin : 783 + n * 31 ≤ j ∧ j < 783 + n * 31 + 31 ∧ n < 3
  ·
   rw [if_pos hin, cellDT_sv (d.T n) (sv n)]
   obtain ⟨k, hk⟩ : ∃ k, j = 783 + n * 31 + k := ⟨j - (783 + n * 31), by omega⟩
   subst hk
   rw [show 783 + n * 31 + k - (783 + n * 31) = k by omega]
   by_cases hk : k = 30
   ·
    rw [if_pos hk, if_pos (by omega)]
   ·
    rw [if_neg hk, if_neg (by omega), fD_T _ _ _ _ _ _ hn (by omega)]
  ·
   rw [if_neg hin, if_neg (by omega)]
 ·
  refine own_keep (h.own.kept hg ?_) hs h.nl.1
  cases hb : lv.ownBlock with
  | none => exact .inl rfl
  | some k => exact .inr (fun e => (h.ap n k hn e.symm).1 hb)
 ·
  intro m hm
  show World.ownsRow _ 0 42 1 (updF sv n v' m) (updF d.T n { d.T n with seals := l } m).seals.length (u64L (updF d.T n { d.T n with seals := l } m).seals)
  by_cases hmn : m = n
  ·
   subst hmn
   rw [updF_same, updF_same]
   exact own_keep ho hs hv'g
  ·
   rw [updF_other _ _ hmn, updF_other _ _ hmn]
   refine own_keep ((h.sls m hm).kept hg ?_) hs (h.nl.2 m hm)
   cases hb : (sv m).ownBlock with
   | none => exact .inl rfl
   | some k => exact .inr (fun e => (h.ap n k hn e.symm).2 m hm hmn hb)
 ·
  intro m k hm hk
  by_cases hmn : m = n
  ·
   subst hmn
   rw [updF_same] at hk
   rcases hl k hk with h1 | h1
   ·
    exact ⟨(h.ap m k hm h1).1, fun i hi hne => by rw [updF_other _ _ hne]; exact (h.ap m k hm h1).2 i hi hne⟩
   ·
    exact ⟨fun e => by have := hll k e; omega, fun i hi hne => by rw [updF_other _ _ hne]; exact fun e => by have := hlt i hi k e; omega⟩
  ·
   rw [updF_other _ _ hmn] at hk
   refine ⟨(h.ap m k hm hk).1, fun i hi hne => ?_⟩
   by_cases hin : i = n
   ·
    subst hin
    rw [updF_same]
    intro e
    rcases hl k e with h1 | h1
    ·
     exact (h.ap m k hm hk).2 i hi hne h1
    ·
     have := hlt m hm k hk; omega
   ·
    rw [updF_other _ _ hin]; exact (h.ap m k hm hk).2 i hi hne
theorem DX.more {g : Nat} {P : PV} {d : DWS} {sv : Nat → Value} {lv lv' : Value} {W V : World} (h : DX g P d sv lv W) {l : List EN} (hg : W.grownBy V lv.ownBlock) (hl : ∀ k, lv'.ownBlock = some k → lv.ownBlock = some k ∨ W.heap.size ≤ k) (ho : V.ownsRow 0 70 21 lv' l.length (flatE l)) :
  DX g P { d with log := l } sv lv' (V.setCell ⟨g, 876, none⟩ lv') ∧ DFr g sv lv sv lv' W (V.setCell ⟨g, 876, none⟩ lv') := by
 have hgl := h.glt
 have hgn := h.nl.1
 have hv'g : lv'.ownBlock ≠ some g := fun e => by
  rcases hl g e with h1 | h1
  ·
   exact hgn h1
  ·
   omega
 have hs := (But.set g 876 V lv').grown
 have hfr : DFr g sv lv sv lv' W (V.setCell ⟨g, 876, none⟩ lv') := by
  refine ⟨hs.os.trans hg.os, hs.tape.trans hg.tape, hs.output.trans hg.output, Nat.le_trans hg.size hs.size, fun k hk h1 h2 _ => ?_, hl, fun m hm k hk => .inl hk⟩
  exact (hs.block k (Nat.lt_of_lt_of_le hk hg.size) (fun e => h1 (Option.some.inj e))).trans (hg.block k hk (fun e => h2 e.symm))
 have hlt : ∀ m, m < 3 → ∀ k, (sv m).ownBlock = some k → k < W.heap.size := fun m hm k hk => ((h.sls m hm).lt k hk).2
 refine ⟨h.gen hfr ?_ ?_ ?_ ?_, hfr⟩
 ·
  refine isD_set (h.mem.imp fun r hr => ⟨(hg.block g hgl (fun e => hgn e.symm)).trans hr.1, hr.2⟩) _ (.inr (by omega)) _ (fun j hj hf => ?_)
  exact fD_lv _ _ _ _ _ _ hj hf
 ·
  exact own_keep ho hs hv'g
 ·
  intro m hm
  refine own_keep ((h.sls m hm).kept hg ?_) hs (h.nl.2 m hm)
  cases hb : (sv m).ownBlock with
  | none => exact .inl rfl
  | some k => exact .inr (fun e => (h.ap m k hm hb).1 e.symm)
 ·
  intro m k hm hk
  refine ⟨fun e => ?_, (h.ap m k hm hk).2⟩
  rcases hl k e with h1 | h1
  ·
   exact (h.ap m k hm hk).1 h1
  ·
   have := hlt m hm k hk; omega
theorem DX.setTh {g : Nat} {P : PV} {d : DWS} {sv : Nat → Value} {lv : Value} {W : World} (h : DX g P d sv lv W) (n : Nat) (hn : n < 3) (zt : Array Value) (hz : zt.size = 31) (t : DT) (ht : t.seals = []) (hc : ∀ j, j < 31 → zt.toList.getD j undef = cellDT t (.slice none 0 0) j) :
  DX g P (d.put n t) (updF sv n (.slice none 0 0)) lv (W.setCells g (783 + n * 31) zt.toList) ∧ DFr g sv lv (updF sv n (.slice none 0 0)) lv W (W.setCells g (783 + n * 31) zt.toList) := by
 have hzl : zt.toList.length = 31 := by rw [Array.length_toList, hz]
 obtain ⟨r, hr, _⟩ := h.mem
 replace hr : W.heap[g]? = some (.cells (VA 877 (Vr.lay (LD g P d.T sv lv) r)) 95 (0, 0)) := hr
 have hs : W.grownBy (W.setCells g (783 + n * 31) zt.toList) (some g) := by
  rw [Vr.ovr_VA 877 g 95 _ _ _ W hr]
  exact setRow_grown W g _
 have hfr : DFr g sv lv (updF sv n (.slice none 0 0)) lv W (W.setCells g (783 + n * 31) zt.toList) := by
  refine ⟨hs.os, hs.tape, hs.output, hs.size, fun k hk h1 h2 _ => hs.block k hk (fun e => h1 (Option.some.inj e)), fun _ h => .inl h, fun m hm k hk => ?_⟩
  by_cases hmn : m = n
  ·
   subst hmn; rw [updF_same] at hk; cases hk
  ·
   rw [updF_other _ _ hmn] at hk; exact .inl hk
 refine ⟨h.gen hfr ?_ ?_ ?_ ?_, hfr⟩
 ·
  refine isD_sets h.mem _ (by omega) _ (fun j hj hf => ?_)
  show fD P (updF d.T n t) (updF sv n _) lv j = _
  rw [fD_th _ _ _ _ _ _ _ _ hj hf, hzl]
  by_cases hin : 783 + n * 31 ≤ j ∧ j < 783 + n * 31 + 31 ∧ n < 3
  ·
   rw [if_pos hin, if_pos (by omega), hc _ (by omega)]
  ·
   rw [if_neg hin, if_neg (by omega)]
 ·
  exact own_keep h.own hs h.nl.1
 ·
  intro m hm
  show World.ownsRow _ 0 42 1 (updF sv n _ m) (updF d.T n t m).seals.length (u64L (updF d.T n t m).seals)
  by_cases hmn : m = n
  ·
   subst hmn
   rw [updF_same, updF_same, ht]
   exact World.ownsRow_nil _ _ _ _
  ·
   rw [updF_other _ _ hmn, updF_other _ _ hmn]
   exact own_keep (h.sls m hm) hs (h.nl.2 m hm)
 ·
  intro m k hm hk
  by_cases hmn : m = n
  ·
   subst hmn
   rw [updF_same] at hk
   cases hk
  ·
   rw [updF_other _ _ hmn] at hk
   refine ⟨(h.ap m k hm hk).1, fun i hi hne => ?_⟩
   by_cases hin : i = n
   ·
    subst hin; rw [updF_same]; intro e; cases e
   ·
    rw [updF_other _ _ hin]; exact (h.ap m k hm hk).2 i hi hne
theorem T_dput (d : DWS) (n : Nat) (t : DT) : (d.put n t).T n = t := updF_same _ _ _
theorem dput_dput (d : DWS) (n : Nat) (t u : DT) : (d.put n t).put n u = d.put n u := by unfold DWS.put; simp only [updF_again]
theorem DX.setT' {g : Nat} {P : PV} {d : DWS} {sv : Nat → Value} {lv : Value} {W : World} {n : Nat} {t0 : DT} (h : DX g P (d.put n t0) sv lv W) (j : Nat) (hn : n < 3) (hj : j < 31) (v : Value) (t : DT) (hs : t.seals = t0.seals) (hc : ∀ k, cellDT t (sv n) k = if k = j then v else cellDT t0 (sv n) k) : DX g P (d.put n t) sv lv (W.setCell ⟨g, 783 + n * 31 + j, none⟩ v) := by
 have h1 := h.setT n j hn hj v t (by rw [T_dput]; exact hs) (fun k _ => by rw [T_dput]; exact hc k)
 rw [dput_dput] at h1
 exact h1
theorem cellDT_phase (t : DT) (sv : Value) (x k : Nat) : cellDT { t with phase := x } sv k = if k = 0 then .int .i64 x else cellDT t sv k := by
 by_cases h : k = 0
 ·
  subst h; rfl
 ·
  rw [if_neg h]; unfold cellDT; simp only [if_neg h]
theorem cellDT_argx (t : DT) (sv : Value) (x k : Nat) : cellDT { t with arg := x } sv k = if k = 17 then .int .i64 x else cellDT t sv k := by
 by_cases h : k = 17
 ·
  subst h; rfl
 ·
  rw [if_neg h]; unfold cellDT; simp only [if_neg h]
theorem cellDT_now (t : DT) (sv : Value) (i : Nat) (hi : i < 4) : cellDT t sv (9 + i) = .int .u64 (t.now i) := by
 rcases show i = 0 ∨ i = 1 ∨ i = 2 ∨ i = 3 by omega with rfl | rfl | rfl | rfl <;> rfl
theorem cellDT_text (t : DT) (sv : Value) (i : Nat) (hi : i < 4) : cellDT t sv (13 + i) = .string (bs (t.texts i)) := by
 rcases show i = 0 ∨ i = 1 ∨ i = 2 ∨ i = 3 by omega with rfl | rfl | rfl | rfl <;> rfl
theorem cellDT_val (t : DT) (sv : Value) (i : Nat) (hi : i < 4) : cellDT t sv (18 + i * 3) = .string (t.vals i).path ∧ cellDT t sv (18 + i * 3 + 1) = .int .u32 (t.vals i).ip ∧ cellDT t sv (18 + i * 3 + 2) = .int .i64 (t.vals i).port := by
 rcases show i = 0 ∨ i = 1 ∨ i = 2 ∨ i = 3 by omega with rfl | rfl | rfl | rfl <;> exact ⟨rfl, rfl, rfl⟩
theorem cases31 {Q : Nat → Prop} {k : Nat} (hk : k < 31) (h0 : Q 0) (h1 : Q 1) (h2 : Q 2) (h3 : Q 3) (h4 : Q 4) (h5 : Q 5) (h6 : Q 6) (h7 : Q 7) (h8 : Q 8) (h9 : Q 9) (h10 : Q 10) (h11 : Q 11) (h12 : Q 12) (h13 : Q 13) (h14 : Q 14) (h15 : Q 15) (h16 : Q 16) (h17 : Q 17) (h18 : Q 18) (h19 : Q 19) (h20 : Q 20) (h21 : Q 21) (h22 : Q 22) (h23 : Q 23) (h24 : Q 24) (h25 : Q 25) (h26 : Q 26) (h27 : Q 27) (h28 : Q 28) (h29 : Q 29) (h30 : Q 30) : Q k := by
 match k, hk with
 | 0, _ => exact h0
 | 1, _ => exact h1
 | 2, _ => exact h2
 | 3, _ => exact h3
 | 4, _ => exact h4
 | 5, _ => exact h5
 | 6, _ => exact h6
 | 7, _ => exact h7
 | 8, _ => exact h8
 | 9, _ => exact h9
 | 10, _ => exact h10
 | 11, _ => exact h11
 | 12, _ => exact h12
 | 13, _ => exact h13
 | 14, _ => exact h14
 | 15, _ => exact h15
 | 16, _ => exact h16
 | 17, _ => exact h17
 | 18, _ => exact h18
 | 19, _ => exact h19
 | 20, _ => exact h20
 | 21, _ => exact h21
 | 22, _ => exact h22
 | 23, _ => exact h23
 | 24, _ => exact h24
 | 25, _ => exact h25
 | 26, _ => exact h26
 | 27, _ => exact h27
 | 28, _ => exact h28
 | 29, _ => exact h29
 | 30, _ => exact h30
 | j + 31, hj => omega
theorem cellDT_now' (t : DT) (sv : Value) (i x : Nat) (hi : i < 4) (k : Nat) (hk : k < 31) : cellDT { t with now := updF t.now i x } sv k = if k = 9 + i then .int .u64 x else cellDT t sv k := by
 rcases show i = 0 ∨ i = 1 ∨ i = 2 ∨ i = 3 by omega with rfl | rfl | rfl | rfl <;> (refine cases31 (Q := fun k => cellDT _ sv k = if k = _ then _ else cellDT t sv k) hk ?_ ?_ ?_ ?_ ?_ ?_ ?_ ?_ ?_ ?_ ?_ ?_ ?_ ?_ ?_ ?_ ?_ ?_ ?_ ?_ ?_ ?_ ?_ ?_ ?_ ?_ ?_ ?_ ?_ ?_ ?_ <;> rfl)
theorem cellDT_text' (t : DT) (sv : Value) (i : Nat) (l : W8) (hi : i < 4) (k : Nat) (hk : k < 31) : cellDT { t with texts := updF t.texts i l } sv k = if k = 13 + i then .string (bs l) else cellDT t sv k := by
 rcases show i = 0 ∨ i = 1 ∨ i = 2 ∨ i = 3 by omega with rfl | rfl | rfl | rfl <;> (refine cases31 (Q := fun k => cellDT _ sv k = if k = _ then _ else cellDT t sv k) hk ?_ ?_ ?_ ?_ ?_ ?_ ?_ ?_ ?_ ?_ ?_ ?_ ?_ ?_ ?_ ?_ ?_ ?_ ?_ ?_ ?_ ?_ ?_ ?_ ?_ ?_ ?_ ?_ ?_ ?_ ?_ <;> rfl)
theorem cellDT_path' (t : DT) (sv : Value) (i : Nat) (v : ByteArray) (hi : i < 4) (k : Nat) (hk : k < 31) : cellDT { t with vals := updF t.vals i ⟨v, (t.vals i).ip, (t.vals i).port⟩ } sv k = if k = 18 + i * 3 then .string v else cellDT t sv k := by
 rcases show i = 0 ∨ i = 1 ∨ i = 2 ∨ i = 3 by omega with rfl | rfl | rfl | rfl <;> (refine cases31 (Q := fun k => cellDT _ sv k = if k = _ then _ else cellDT t sv k) hk ?_ ?_ ?_ ?_ ?_ ?_ ?_ ?_ ?_ ?_ ?_ ?_ ?_ ?_ ?_ ?_ ?_ ?_ ?_ ?_ ?_ ?_ ?_ ?_ ?_ ?_ ?_ ?_ ?_ ?_ ?_ <;> rfl)
theorem cellDT_ip' (t : DT) (sv : Value) (i x : Nat) (hi : i < 4) (k : Nat) (hk : k < 31) : cellDT { t with vals := updF t.vals i ⟨(t.vals i).path, x, (t.vals i).port⟩ } sv k = if k = 18 + i * 3 + 1 then .int .u32 x else cellDT t sv k := by
 rcases show i = 0 ∨ i = 1 ∨ i = 2 ∨ i = 3 by omega with rfl | rfl | rfl | rfl <;> (refine cases31 (Q := fun k => cellDT _ sv k = if k = _ then _ else cellDT t sv k) hk ?_ ?_ ?_ ?_ ?_ ?_ ?_ ?_ ?_ ?_ ?_ ?_ ?_ ?_ ?_ ?_ ?_ ?_ ?_ ?_ ?_ ?_ ?_ ?_ ?_ ?_ ?_ ?_ ?_ ?_ ?_ <;> rfl)
theorem cellDT_port' (t : DT) (sv : Value) (i : Nat) (x : Int) (hi : i < 4) (k : Nat) (hk : k < 31) : cellDT { t with vals := updF t.vals i ⟨(t.vals i).path, (t.vals i).ip, x⟩ } sv k = if k = 18 + i * 3 + 2 then .int .i64 x else cellDT t sv k := by
 rcases show i = 0 ∨ i = 1 ∨ i = 2 ∨ i = 3 by omega with rfl | rfl | rfl | rfl <;> (refine cases31 (Q := fun k => cellDT _ sv k = if k = _ then _ else cellDT t sv k) hk ?_ ?_ ?_ ?_ ?_ ?_ ?_ ?_ ?_ ?_ ?_ ?_ ?_ ?_ ?_ ?_ ?_ ?_ ?_ ?_ ?_ ?_ ?_ ?_ ?_ ?_ ?_ ?_ ?_ ?_ ?_ <;> rfl)
theorem DX.pol' {g : Nat} {P : PV} {d : DWS} {sv : Nat → Value} {lv : Value} {W : World} (h : DX g P d sv lv W) : IsPol P.oa P.cap P.p W := h.pol W (fun _ _ _ _ _ => rfl) h.bd
theorem DX.setPhase {g : Nat} {P : PV} {d : DWS} {sv : Nat → Value} {lv : Value} {W : World} (h : DX g P d sv lv W) (n k : Nat) (hn : n < 3) : DX g P (d.put n { d.T n with phase := k }) sv lv (W.setCell ⟨g, 783 + n * 31, none⟩ (.int .i64 k)) := h.setT n 0 hn (by omega) _ _ rfl fun j _ => cellDT_phase _ _ _ j
theorem DX.phase {g : Nat} {P : PV} {d : DWS} {sv : Nat → Value} {lv : Value} {W : World} (h : DX g P d sv lv W) (n : Nat) (hn : n < 3) : W.cell? ⟨g, 783 + n * 31, none⟩ = some (.int .i64 (d.T n).phase) := h.th n 0 hn (by omega)
theorem DX.logc {g : Nat} {P : PV} {d : DWS} {sv : Nat → Value} {lv : Value} {W : World} (h : DX g P d sv lv W) : W.cell? ⟨g, 876, none⟩ = some lv := h.cell 876 (by omega) (.inr (by omega))
def DGoes (g : Nat) (P : PV) (d' : DWS) (sv : Nat → Value) (lv : Value) (W : World) (e : Ending) (w' : World) : Prop := e = .returned (.tuple #[]) ∧ ∃ sv' lv', DX g P d' sv' lv' w' ∧ DFr g sv lv sv' lv' W w'
theorem DGoes.from {g : Nat} {P : PV} {d' : DWS} {sv sv1 : Nat → Value} {lv lv1 : Value} {W X : World} {e : Ending} {w' : World} (hb : DFr g sv lv sv1 lv1 W X) (h : DGoes g P d' sv1 lv1 X e w') : DGoes g P d' sv lv W e w' := by
 obtain ⟨h1, sv', lv', h2, h3⟩ := h
 exact ⟨h1, sv', lv', h2, hb.trans h3⟩
end Go.Proofs.YtklibmijiecbfaaGreat

/- errors.Is at errors of the project's own. -/
namespace Go.Proofs.YtklibmijiecbfaaGreat
open Go.RowKit Go.Extern.Stop Go.Stop Go.Extern

theorem is_typeOf (v : Value) (w : World) : (Extern.ReflectliteType.typeOf #[.iface 82 v]).run Tryz.prog w = .ok (.iface 228 (.agg #[.pointer (some ⟨1, 82, none⟩)])) w := by kernel_rfl
theorem is_comparable (w : World) : ((Extern.ReflectliteType.method fun t => do Go.Extern.Rtype.noPackHeld "Comparable" t; (fun a => Value.bool a.comparable) <$> typeInfo t) #[.agg #[.pointer (some ⟨1, 82, none⟩)]]).run Tryz.prog w = .ok (.bool true) w := by kernel_rfl
theorem no_is (v : Value) (xT : TypeId) (w : World) : (Instr.typeAssert (.iface 82 v) xT 230 true).run Tryz.prog w = .ok (.tuple #[.nilIface, .bool false]) w := run_typeAssert_lacksB Tryz.underlying230 (by kernel_rfl) (by kernel_rfl) v xT w
theorem no_unwrap (v : Value) (xT : TypeId) (w : World) : (Instr.typeAssert (.iface 82 v) xT 233 true).run Tryz.prog w = .ok (.tuple #[.nilIface, .bool false]) w := run_typeAssert_lacksB Tryz.underlying233 (by kernel_rfl) (by kernel_rfl) v xT w
theorem no_unwraps (v : Value) (xT : TypeId) (w : World) : (Instr.typeAssert (.iface 82 v) xT 235 true).run Tryz.prog w = .ok (.tuple #[.nilIface, .bool false]) w := run_typeAssert_lacksB Tryz.underlying235 (by kernel_rfl) (by kernel_rfl) v xT w

set_option maxRecDepth 100000 in
set_option maxHeartbeats 1000000 in
theorem eis_any (a b : Int) (w : World) : Calls Tryz.prog 125 #[.iface 82 (.int .i64 a), .iface 82 (.int .i64 b), .bool true] w fun e w' => e = .returned (.bool (a == b)) ∧ w' = w := by
 have nE := no_is
 have uE := no_unwrap
 have vE := no_unwraps
 have eQ := fun w => Lib.run_eql_iface_int (P := Tryz.prog) w (t := 34) (tx := 82) (k := .i64) a b Tryz.underlying34 (by kernel_rfl) Tryz.underlying82
 cases hab : (a == b) with
 | true =>
  rw [hab] at eQ
  clear hab
  go_enter Tryz.func125, Tryz.ntmps125
  go_wp2
  refine wp_loop_rounds 1 ?_
  rw [rounds_succ]
  go_wp2
  go_ret
  exact ⟨rfl, rfl⟩
 | false =>
  rw [hab] at eQ
  clear hab
  go_enter Tryz.func125, Tryz.ntmps125
  go_wp2
  refine wp_loop_rounds 1 ?_
  rw [rounds_succ]
  go_wp2
  go_ret
  exact ⟨rfl, rfl⟩
set_option maxRecDepth 100000 in
set_option maxHeartbeats 1000000 in
theorem errIs_any (a b : Int) (w : World) : Calls Tryz.prog 109 #[.iface 82 (.int .i64 a), .iface 82 (.int .i64 b)] w fun e w' => e = .returned (.bool (a == b)) ∧ w' = w := by
 have h8 := @run_callFunc_extern Tryz.prog 124 _ Extern.ReflectliteType.typeOf Tryz.func124 (by kernel_rfl) (by kernel_rfl) (by kernel_rfl) (by kernel_rfl)
 have h32 := @run_callFunc_extern Tryz.prog 162 _ (Extern.ReflectliteType.method fun t => do Go.Extern.Rtype.noPackHeld "Comparable" t; pure (.bool (← typeInfo t).comparable)) Tryz.func162 (by kernel_rfl) (by kernel_rfl) (by kernel_rfl) (by kernel_rfl)
 have tT := is_typeOf
 have cT := is_comparable
 obtain ⟨r, hr⟩ : ∃ r, r = (a == b) := ⟨_, rfl⟩
 have HE := eis_any a b
 rw [← hr] at HE ⊢
 clear hr
 go_enter Tryz.func109, Tryz.ntmps109
 go_wp2_with (go_at_call 125; refine (HE _).mono ?_; rintro e w' ⟨rfl, rfl⟩)
 go_ret
 exact ⟨rfl, rfl⟩
end Go.Proofs.YtklibmijiecbfaaGreat

/- Small functions of package ward. -/
namespace Go.Proofs.YtklibmijiecbfaaGreat
open Go.RowKit Mm

theorem isThread_any (n : Int) (w : World) : Calls Tryz.prog 49 #[.int .i64 n] w fun e w' => e = .returned (.bool (decide (0 ≤ n) && decide (n < 3))) ∧ w' = w := by
 by_cases h : 0 ≤ n
 ·
  go_enter Tryz.func49, Tryz.ntmps49
  go_wp2
  go_ret
  exact ⟨by simp [h], rfl⟩
 ·
  have hn : n < 0 := by omega
  go_enter Tryz.func49, Tryz.ntmps49
  go_wp2
  go_ret
  refine ⟨?_, rfl⟩
  rw [show decide (0 ≤ n) = false from decide_eq_false (by omega)]
  rfl
theorem isCall_any (c : KL) (w : World) : Calls Tryz.prog 59 #[klV c] w fun e w' => e = .returned (.bool (decide (c.nr < 9))) ∧ Below w.heap.size w w' := by
 unfold klV klC
 by_cases h : c.nr < 9
 ·
  have h1 : (c.nr : Int) < 9 := by omega
  have HV := hide (decide_eq_true h)
  clear h
  go_enter Tryz.func59, Tryz.ntmps59
  go_wp2
  go_ret
  rw [HV.out]
  exact ⟨rfl, box_below _ _⟩
 ·
  have h1 : ¬ (c.nr : Int) < 9 := by omega
  have HV := hide (decide_eq_false h)
  clear h
  go_enter Tryz.func59, Tryz.ntmps59
  go_wp2
  go_ret
  rw [HV.out]
  exact ⟨rfl, box_below _ _⟩
def errnoN (f : Nat) : Nat := if f = 5 then 14 else if f = 6 then 36 else if f = 9 then 12 else 22
set_option maxRecDepth 20000 in
theorem errnoOf_any (f : Nat) (w : World) : Calls Tryz.prog 82 #[.iface 82 (.int .i64 (f : Int))] w fun e w' => e = .returned (.int .i64 (errnoN f : Nat)) ∧ w' = w := by
 have H5 := fun w => errIs_any (f : Int) 5 w
 have H6 := fun w => errIs_any (f : Int) 6 w
 have H9 := fun w => errIs_any (f : Int) 9 w
 obtain ⟨z, hz⟩ : ∃ z : Int, z = f := ⟨_, rfl⟩
 rw [← hz] at H5 H6 H9 ⊢
 by_cases h5 : f = 5
 ·
  have b5 : (z == 5) = true := by rw [hz]; simp; omega
  have HV := hide (show errnoN f = 14 from if_pos h5)
  rw [b5] at H5
  clear hz h5 b5 H6 H9
  go_enter Tryz.func82, Tryz.ntmps82
  go_wp2_with fail
  refine (H5 _).mono ?_
  rintro e w' ⟨rfl, rfl⟩
  go_wp2
  go_ret
  rw [HV.out]
  exact ⟨rfl, rfl⟩
 have b5 : (z == 5) = false := by rw [hz]; simp; omega
 rw [b5] at H5
 clear b5
 by_cases h6 : f = 6
 ·
  have b6 : (z == 6) = true := by rw [hz]; simp; omega
  have HV := hide (show errnoN f = 36 by unfold errnoN; rw [if_neg h5, if_pos h6])
  rw [b6] at H6
  clear hz h5 h6 b6 H9
  go_enter Tryz.func82, Tryz.ntmps82
  go_wp2_with fail
  refine (H5 _).mono ?_
  rintro e w' ⟨rfl, rfl⟩
  go_wp2_with fail
  refine (H6 _).mono ?_
  rintro e w' ⟨rfl, rfl⟩
  go_wp2
  go_ret
  rw [HV.out]
  exact ⟨rfl, rfl⟩
 have b6 : (z == 6) = false := by rw [hz]; simp; omega
 rw [b6] at H6
 clear b6
 by_cases h9 : f = 9
 ·
  have b9 : (z == 9) = true := by rw [hz]; simp; omega
  have HV := hide (show errnoN f = 12 by unfold errnoN; rw [if_neg h5, if_neg h6, if_pos h9])
  rw [b9] at H9
  clear hz h5 h6 h9 b9
  go_enter Tryz.func82, Tryz.ntmps82
  go_wp2_with fail
  refine (H5 _).mono ?_
  rintro e w' ⟨rfl, rfl⟩
  go_wp2_with fail
  refine (H6 _).mono ?_
  rintro e w' ⟨rfl, rfl⟩
  go_wp2_with fail
  refine (H9 _).mono ?_
  rintro e w' ⟨rfl, rfl⟩
  go_wp2
  go_ret
  rw [HV.out]
  exact ⟨rfl, rfl⟩
 have b9 : (z == 9) = false := by rw [hz]; simp; omega
 have HV := hide (show errnoN f = 22 by unfold errnoN; rw [if_neg h5, if_neg h6, if_neg h9])
 rw [b9] at H9
 clear hz h5 h6 h9 b9
 go_enter Tryz.func82, Tryz.ntmps82
 go_wp2_with fail
 refine (H5 _).mono ?_
 rintro e w' ⟨rfl, rfl⟩
 go_wp2_with fail
 refine (H6 _).mono ?_
 rintro e w' ⟨rfl, rfl⟩
 go_wp2_with fail
 refine (H9 _).mono ?_
 rintro e w' ⟨rfl, rfl⟩
 go_wp2
 go_ret
 rw [HV.out]
 exact ⟨rfl, rfl⟩
theorem suffix_zero (l : W8) : Lib.hasSuffix l [0] = (l.getLast? == some 0) := by
 unfold Lib.hasSuffix
 cases h : l.getLast? with
 | none =>
  rw [List.getLast?_eq_none_iff] at h
  subst h
  rfl
 | some x =>
  obtain ⟨r, rfl⟩ := List.getLast?_eq_some_iff.1 h
  by_cases hx : x = 0
  ·
   subst hx
   simp
  ·
   have : ([0] : W8).isSuffixOf (r ++ [x]) = false := by
    rw [Bool.eq_false_iff]
    intro hc
    rw [List.isSuffixOf_iff_suffix] at hc
    obtain ⟨t, ht⟩ := hc
    have := congrArg List.getLast? ht
    simp at this
    exact hx this.symm
   rw [this]
   simp [hx]
theorem isWhole_any (k : Nat) (l : W8) (hl : l.length ≤ 9000) (w : World) : Calls Tryz.prog 55 #[.int .i64 k, .string (bs l)] w fun e w' => e = .returned (.bool (wholeB k l)) ∧ w' = w := by
 have HH := Tryz.strings_HasSuffix (bs l) ⟨#[0]⟩ w (by rw [bs_size]; omega)
 rw [bs_data, show (⟨#[0]⟩ : ByteArray).data.toList = [0] from rfl, suffix_zero] at HH
 have hsz := bs_size l
 obtain ⟨q, hq⟩ : ∃ q, q = bs l := ⟨_, rfl⟩
 rw [← hq] at HH hsz ⊢
 clear hq
 unfold wholeB
 by_cases hk : k = 3
 ·
  subst hk
  rw [if_pos rfl]
  by_cases h16 : l.length = 16
  ·
   have h1 : (q.size : Int) = 16 := by omega
   have HV := hide (show (l.length == 16) = true by rw [h16]; rfl)
   clear HH hsz h16 hl
   go_enter Tryz.func55, Tryz.ntmps55
   go_wp2
   go_ret
   rw [HV.out]
   exact ⟨rfl, rfl⟩
  ·
   have h1 : ¬ (q.size : Int) = 16 := by omega
   have HV := hide (show (l.length == 16) = false by simpa using h16)
   clear HH hsz h16 hl
   go_enter Tryz.func55, Tryz.ntmps55
   go_wp2
   go_ret
   rw [HV.out]
   exact ⟨by show Ending.returned (.bool ((q.size : Int) == 16)) = _; rw [beq_eq_false_iff_ne.2 (by omega)], rfl⟩
 ·
  rw [if_neg hk]
  have h3 : ¬ (k : Int) = 3 := by omega
  cases hs : (l.getLast? == some 0) with
  | true =>
   rw [hs] at HH
   go_enter Tryz.func55, Tryz.ntmps55
   go_wp2_with (go_at_call 83; refine HH.mono ?_; rintro e w' ⟨rfl, rfl⟩)
   go_ret
   exact ⟨by simp, rfl⟩
  | false =>
   rw [hs] at HH
   by_cases h40 : 40 < l.length
   ·
    have h1 : (40 : Int) < q.size := by omega
    have HV := hide (decide_eq_true h40)
    clear hsz hl h40 hs
    go_enter Tryz.func55, Tryz.ntmps55
    go_wp2_with (go_at_call 83; refine HH.mono ?_; rintro e w' ⟨rfl, rfl⟩)
    go_ret
    rw [HV.out]
    exact ⟨rfl, rfl⟩
   ·
    have h1 : ¬ (40 : Int) < q.size := by omega
    have HV := hide (decide_eq_false h40)
    clear hsz hl h40 hs
    go_enter Tryz.func55, Tryz.ntmps55
    go_wp2_with (go_at_call 83; refine HH.mono ?_; rintro e w' ⟨rfl, rfl⟩)
    go_ret
    rw [HV.out]
    exact ⟨by show Ending.returned (.bool (decide ((40 : Int) < q.size))) = _; rw [decide_eq_false (by omega)]; rfl, rfl⟩
def vlC (v : VL) : Array Value := #[.string v.path, .int .u32 v.ip, .int .i64 v.port]
theorem size_vl : (Tryz.prog.info? 66).map (·.size) = some 3 := by kernel_rfl
theorem vlC_one (v : VL) : (vlC v).all (·.oneCell') = true := by simp [vlC, Value.oneCell']
theorem results_vl {fn : Func} {p u : Tmp} (h : fn.results = #[.cell p 66, .tmp u]) (tmps : Array Value) (w : World) (g : Nat) (cs : Array Value) (v : Value) (hs : cs.size = 3)
  (hp : tmps.getD p undef = .pointer (some ⟨g, 0, none⟩)) (hv : tmps.getD u undef = v) (hg : w.heap[g]? = some (.cells cs 66 (0, 0))) :
  (results fn tmps).run Tryz.prog w = .ok (.tuple #[.agg cs, v]) w := by
 rw [results_cell_tmp h, hp, hv]
 have hl := run_loadVar_row (P := Tryz.prog) w g 66 66 cs (0, 0) _ hg Tryz.underlying66 rfl (by rw [hs]; exact size_vl)
 simp [asAddr, hl]
def valR (k : Nat) (l : W8) : VL × Nat := match valOf k l with
 | some v => (v, 0)
 | none => (zeroVL, if k = 3 then 3 else 6)
theorem trim_zero {l : W8} (h : (l.getLast? == some 0) = true) : Lib.trimSuffix l [0] = l.dropLast := by
 have h1 := suffix_zero l
 rw [h] at h1
 unfold Lib.trimSuffix
 rw [if_pos h1, List.dropLast_eq_take]
 rfl
theorem valueOf_any (k : Nat) (hk : k = 2 ∨ k = 3) (l : W8) (hl : l.length ≤ 9000) (w : World) : Calls Tryz.prog 56 #[.int .i64 k, .string (bs l)] w fun e w' => e = .returned (.tuple #[.agg (vlC (valR k l).1), errV (valR k l).2]) ∧ Below w.heap.size w w' := by
 have hres : (w.alloc (.cells #[.string ⟨#[]⟩, .int .u32 0, .int .i64 0] 66)).heap[w.heap.size]? = some (.cells #[.string ⟨#[]⟩, .int .u32 0, .int .i64 0] 66 (0, 0)) := heap_alloc_new _ _
 obtain ⟨V, hV, hVh, hVb⟩ : ∃ V, V = w.alloc (.cells #[.string ⟨#[]⟩, .int .u32 0, .int .i64 0] 66) ∧ V.heap[w.heap.size]? = some (.cells #[.string ⟨#[]⟩, .int .u32 0, .int .i64 0] 66 (0, 0)) ∧ Below w.heap.size w V := ⟨_, rfl, hres, box_below _ _⟩
 have hVl := (Array.getElem?_eq_some_iff.1 hVh).1
 have HC := Tryz.strings_CutSuffix (bs l) ⟨#[0]⟩ V (by rw [bs_size]; omega)
 rw [bs_data, show (⟨#[0]⟩ : ByteArray).data.toList = [0] from rfl, suffix_zero] at HC
 have HA := aread_any (bs l) V
 clear hres hl
 rcases hk with rfl | rfl
 ·
  cases hs : (l.getLast? == some 0) with
  | true =>
   rw [hs] at HC
   have HR := hide (show valR 2 l = (⟨bs l.dropLast, 0, 0⟩, 0) by
    unfold valR valOf
    rw [if_neg (by omega), if_pos (eq_of_beq hs)])
   rw [trim_zero hs, show (⟨(l.dropLast).toArray⟩ : ByteArray) = bs l.dropLast from rfl] at HC
   obtain ⟨d, hd⟩ : ∃ d, d = bs l.dropLast := ⟨_, rfl⟩
   rw [← hd] at HC HR
   obtain ⟨q, hq⟩ : ∃ q, q = bs l := ⟨_, rfl⟩
   rw [← hq] at HC ⊢
   clear hd hq hs HA
   go_enter Tryz.func56, Tryz.ntmps56
   go_wp2_with fail
   rw [← hV]
   refine HC.mono ?_
   rintro e w' ⟨rfl, hw'⟩
   rw [hw']
   clear hw' hV HC
   go_wp2_with (refine wpList_store_row rfl 66 _ _ rfl w.heap.size (vlC ⟨d, 0, 0⟩) rfl rfl 66 _ hVh size_vl rfl (vlC_one _) ?_)
   refine bodyPost_ret (v := .tuple #[.agg (vlC ⟨d, 0, 0⟩), .nilIface]) (results_vl rfl _ _ w.heap.size (vlC ⟨d, 0, 0⟩) _ rfl rfl rfl (setRow_heap _ _ _ _ _ _ hVh)) rfl ⟨?_, below_setRow hVb (Nat.le_refl _) _⟩
   rw [HR.out]
   rfl
  | false =>
   rw [hs] at HC
   have HR := hide (show valR 2 l = (zeroVL, 6) by
    unfold valR valOf
    rw [if_neg (by omega), if_neg (fun h => by rw [h] at hs; simp at hs)]
    rfl)
   obtain ⟨d, hd⟩ : ∃ d : ByteArray, d = ⟨(Lib.trimSuffix l [0]).toArray⟩ := ⟨_, rfl⟩
   rw [← hd] at HC
   obtain ⟨q, hq⟩ : ∃ q, q = bs l := ⟨_, rfl⟩
   rw [← hq] at HC ⊢
   clear hd hq hs HA
   go_enter Tryz.func56, Tryz.ntmps56
   go_wp2_with fail
   rw [← hV]
   refine HC.mono ?_
   rintro e w' ⟨rfl, hw'⟩
   rw [hw']
   clear hw' hV HC
   go_wp2_with (refine wpList_store_row rfl 66 _ _ rfl w.heap.size (vlC zeroVL) rfl rfl 66 _ hVh size_vl rfl (vlC_one _) ?_)
   refine bodyPost_ret (v := .tuple #[.agg (vlC zeroVL), .iface 82 (.int .i64 6)]) (results_vl rfl _ _ w.heap.size (vlC zeroVL) _ rfl rfl rfl (setRow_heap _ _ _ _ _ _ hVh)) rfl ⟨?_, below_setRow hVb (Nat.le_refl _) _⟩
   rw [HR.out]
   rfl
 ·
  cases hr : readR (bs l) with
  | none =>
   rw [hr] at HA
   have HR := hide (show valR 3 l = (zeroVL, 3) by
    unfold valR valOf
    rw [if_pos rfl, hr]
    rfl)
   unfold readV at HA
   obtain ⟨q, hq⟩ : ∃ q, q = bs l := ⟨_, rfl⟩
   rw [← hq] at HA ⊢
   clear hq hr HC
   go_enter Tryz.func56, Tryz.ntmps56
   go_wp2_with fail
   rw [← hV]
   refine HA.mono ?_
   rintro e X ⟨rfl, hX⟩
   have hXh := (hX.block _ hVl).trans hVh
   have HB := hide (below_next hVb hX)
   clear hV HA hX
   go_wp2_with (refine wpList_store_row rfl 66 _ _ rfl w.heap.size (vlC zeroVL) rfl rfl 66 _ hXh size_vl rfl (vlC_one _) ?_)
   refine bodyPost_ret (v := .tuple #[.agg (vlC zeroVL), .iface 82 (.int .i64 3)]) (results_vl rfl _ _ w.heap.size (vlC zeroVL) _ rfl rfl rfl (setRow_heap _ _ _ _ _ _ hXh)) rfl ⟨?_, below_setRow HB.out (Nat.le_refl _) _⟩
   rw [HR.out]
   rfl
  | some x =>
   obtain ⟨ip, port⟩ := x
   rw [hr] at HA
   have HR := hide (show valR 3 l = (⟨ByteArray.empty, ip, port⟩, 0) by
    unfold valR valOf
    rw [if_pos rfl, hr]
    rfl)
   unfold readV at HA
   obtain ⟨q, hq⟩ : ∃ q, q = bs l := ⟨_, rfl⟩
   rw [← hq] at HA ⊢
   clear hq hr HC
   go_enter Tryz.func56, Tryz.ntmps56
   go_wp2_with fail
   rw [← hV]
   refine HA.mono ?_
   rintro e X ⟨rfl, hX⟩
   have hXh := (hX.block _ hVl).trans hVh
   have HB := hide (below_next hVb hX)
   clear hV HA hX
   go_wp2_with (refine wpList_store_row rfl 66 _ _ rfl w.heap.size (vlC ⟨ByteArray.empty, ip, port⟩) rfl rfl 66 _ hXh size_vl rfl (vlC_one _) ?_)
   refine bodyPost_ret (v := .tuple #[.agg (vlC ⟨ByteArray.empty, ip, port⟩), .nilIface]) (results_vl rfl _ _ w.heap.size (vlC ⟨ByteArray.empty, ip, port⟩) _ rfl rfl rfl (setRow_heap _ _ _ _ _ _ hXh)) rfl ⟨?_, below_setRow HB.out (Nat.le_refl _) _⟩
   rw [HR.out]
   rfl
theorem bytesOf_any (k : Nat) (v : VL) (hv : ValOk k v) (w : World) : Calls Tryz.prog 87 #[.int .i64 k, .agg (vlC v)] w fun e w' => e = .returned (.tuple #[.string (bs (bytesV k v)), .nilIface]) ∧ Below w.heap.size w w' := by
 obtain ⟨path, ip, port⟩ := v
 unfold vlC
 obtain ⟨V, hV, hVb, hVs, hVc⟩ := one_box w #[.string path, .int .u32 ip, .int .i64 port] 66
 have c0 := hVc 0
 have c1 := hVc 1
 have c2 := hVc 2
 simp only [List.getElem?_toArray, List.getElem?_cons_zero, List.getElem?_cons_succ] at c0 c1 c2
 clear hVc
 rcases hv with ⟨rfl, h1, h2, h3, h4⟩ | ⟨rfl, h1, h2, q, h3, h4⟩
 ·
  simp only at h1 h2 h3 h4
  have HR := hide (show bs (bytesV 2 ⟨path, ip, port⟩) = path ++ ⟨#[0]⟩ by
   unfold bytesV
   rw [if_neg (by omega), ← bs_append, bs_of]
   rfl)
  have z : ¬ 9223372036854775807 < path.size + 1 := by omega
  clear h2 h3 h4
  go_enter Tryz.func87, Tryz.ntmps87
  go_wp2
  go_ret2
  exact ⟨by rw [HR.out]; rfl, box_below _ _⟩
 ·
  simp only at h1 h2 h3
  subst h3
  have HB := fun X => bytes_any ip h2 q h4 X
  rw [show (⟨(bytesL ip q).toArray⟩ : ByteArray) = bs (bytesL ip q) from rfl] at HB
  have HR := hide (show bytesV 3 ⟨path, ip, (q : Int)⟩ = bytesL ip q from rfl)
  obtain ⟨r, hr⟩ : ∃ r, r = bs (bytesL ip q) := ⟨_, rfl⟩
  rw [← hr] at HB
  have HRR := hide hr
  clear hr h1 h2 h4
  go_enter Tryz.func87, Tryz.ntmps87
  go_wp2_with fail
  rw [← hV]
  clear hV
  refine (HB _).mono ?_
  rintro e X ⟨rfl, hX⟩
  go_wp2
  go_ret2
  exact ⟨by rw [HR.out, ← HRR.out]; rfl, below_next hVb hX⟩
end Go.Proofs.YtklibmijiecbfaaGreat
