/- What judging by registers tells of deciding. -/
import Derived.Test.YtklibmijiecbfaaGreatK11
import Derived.Test.YtklibmijiecbfaaGreatK9
import Derived.Laws.Slices
import Derived.Test.YtklibmijiecbfaaGreatK2
namespace Go.Proofs.YtklibmijiecbfaaGreat

theorem act_kind {a : ACT} (h : actF a = 0) : a.kind ≠ 4 := by
 rcases act_cases h with rfl | rfl | ⟨n, _, _, rfl⟩ <;> simp
theorem num_lead {c : CD} (h : numB c = true) (v : VS) : leadB v c = true := by
 unfold numB kindOp at h
 unfold leadB
 split at h
 ·
  cases h
 ·
  rename_i h8
  rw [if_neg h8]
  split at h
  ·
   cases h
  ·
   rename_i h9
   rw [if_neg h9]
theorem flat_leads {r : RL} (h : deepB r = false) (v : VS) : leadsB r v = true := by
 unfold leadsB
 rw [List.all_eq_true]
 intro c hc
 apply num_lead
 unfold deepB at h
 rw [List.any_eq_false] at h
 have := h c hc
 simpa using this
theorem decide_kind (k : KL) (v : VS) (els : ACT) (he : actF els = 0) : ∀ rs : List RL, (∀ r ∈ rs, actF r.act = 0) → (decideFrom k v els rs).kind ≠ 4
 | [], _ => act_kind he
 | r :: t, h => by
  rw [decideFrom]
  split
  ·
   exact act_kind (h r (List.mem_cons_self ..))
  ·
   exact decide_kind k v els he t fun x hx => h x (List.mem_cons_of_mem _ hx)
theorem judge_decide (k : KL) (v : VS) (els : ACT) (he : actF els = 0) : ∀ (rs : List RL) (i : Nat), (∀ r ∈ rs, actF r.act = 0) →
  ((judgeFrom k els rs i).1.kind = 4 ∧ i ≤ (judgeFrom k els rs i).2 ∧ (judgeFrom k els rs i).2 < i + rs.length ∧ decideFrom k v els (rs.drop ((judgeFrom k els rs i).2 - i)) = decideFrom k v els rs) ∨
  ((judgeFrom k els rs i).1.kind ≠ 4 ∧ (judgeFrom k els rs i).2 = 0 ∧ decideFrom k v els rs = (judgeFrom k els rs i).1)
 | [], i, _ => .inr ⟨act_kind he, rfl, rfl⟩
 | r :: t, i, h => by
  rw [judgeFrom]
  by_cases hf : fitsB r k = true
  ·
   rw [if_pos hf]
   cases hd : deepB r with
   | true => exact .inl ⟨rfl, Nat.le_refl _, by simp, by simp⟩
   | false =>
    refine .inr ⟨act_kind (h r (List.mem_cons_self ..)), rfl, ?_⟩
    rw [decideFrom, hf, flat_leads hd]
    rfl
  ·
   rw [if_neg hf]
   have hd : decideFrom k v els (r :: t) = decideFrom k v els t := by rw [decideFrom, Bool.eq_false_iff.2 hf]; rfl
   rw [hd]
   rcases judge_decide k v els he t (i + 1) (fun x hx => h x (List.mem_cons_of_mem _ hx)) with ⟨a, b, c, d⟩ | ⟨a, b, c⟩
   ·
    refine .inl ⟨a, by omega, by rw [List.length_cons]; omega, ?_⟩
    rw [show (judgeFrom k els t (i + 1)).2 - i = ((judgeFrom k els t (i + 1)).2 - (i + 1)) + 1 by omega, List.drop_succ_cons]
    exact d
   ·
    exact .inr ⟨a, b, c⟩
theorem top_laws {p : POL} (h : PolOk p) (k : KL) (v : VS) :
  ((judgeR p k).1.kind = 4 ∧ (judgeR p k).2 < p.rules.length ∧ (decideR p k v).kind ≠ 4 ∧ decideR ⟨p.rules.drop (judgeR p k).2, p.els⟩ k v = decideR p k v) ∨
  ((judgeR p k).1.kind ≠ 4 ∧ (judgeR p k).2 = 0 ∧ decideR p k v = (judgeR p k).1) := by
 unfold judgeR decideR
 by_cases ha : k.arch = 3221225534
 ·
  simp only [if_pos ha]
  have hr : ∀ r ∈ p.rules, actF r.act = 0 := fun r hr => (h.rules r hr).act
  rcases judge_decide k v p.els h.els p.rules 0 hr with ⟨a, _, c, d⟩ | ⟨a, b, c⟩
  ·
   rw [Nat.sub_zero] at d
   exact .inl ⟨a, by omega, decide_kind k v p.els h.els p.rules hr, d⟩
  ·
   exact .inr ⟨a, b, c⟩
 ·
  simp only [if_neg ha]
  exact .inr (by simp)
end Go.Proofs.YtklibmijiecbfaaGreat

/- An address's bytes: the code's and the document's. -/
namespace Go.Proofs.YtklibmijiecbfaaGreat
open Go.RowKit


def bArr (ip port k : Nat) : Array Value := #[.int .u8 2, .int .u8 0, .int .u8 (port / 256 : Nat), .int .u8 (port % 256 : Nat), .int .u8 (if 0 < k then ipB ip 0 else 0 : Nat), .int .u8 (if 1 < k then ipB ip 1 else 0 : Nat), .int .u8 (if 2 < k then ipB ip 2 else 0 : Nat), .int .u8 (if 3 < k then ipB ip 3 else 0 : Nat), .int .u8 0, .int .u8 0, .int .u8 0, .int .u8 0, .int .u8 0, .int .u8 0, .int .u8 0, .int .u8 0]

theorem bArr_get (ip port k : Nat) (hk : k < 4) : (bArr ip port k)[4 + k]? = some (.int .u8 0) := by
 match k, hk with
 | 0, _ => rfl
 | 1, _ => rfl
 | 2, _ => rfl
 | 3, _ => rfl
theorem bArr_set (ip port k : Nat) (hk : k < 4) : (bArr ip port k).setIfInBounds (4 + k) (.int .u8 (ipB ip k : Nat)) = bArr ip port (k + 1) := by
 match k, hk with
 | 0, _ => rfl
 | 1, _ => rfl
 | 2, _ => rfl
 | 3, _ => rfl
theorem bArr_world (w : World) (ip port k m : Nat) (hk : k < 4) : ((w.alloc (.cells (bArr ip port k) 214)).drewN m).setCell ⟨w.heap.size, 4 + k, none⟩ (.int .u8 (ipB ip k : Nat)) = (w.alloc (.cells (bArr ip port (k + 1)) 214)).drewN m := by
 have h : ((w.alloc (.cells (bArr ip port k) 214)).drewN m).heap[w.heap.size]? = some (.cells (bArr ip port k) 214 (0, 0)) := heap_alloc_new w _
 rw [setCell_eq_setRow _ _ (4 + k) _ _ _ _ h, bArr_set ip port k hk]
 exact congrArg (World.drewN · m) (World.setRow_alloc_new w _ _ _)
attribute [local go_sem] bArr_get

def bytesL (ip port : Nat) : List UInt8 := [2, 0, UInt8.ofNat (port / 256), UInt8.ofNat (port % 256), UInt8.ofNat (ipB ip 0), UInt8.ofNat (ipB ip 1), UInt8.ofNat (ipB ip 2), UInt8.ofNat (ipB ip 3), 0, 0, 0, 0, 0, 0, 0, 0]

theorem ofN (n : Nat) (h : n < 256) : ((UInt8.ofNat n).toNat : Int) = n := by
 rw [UInt8.toNat_ofNat', Nat.mod_eq_of_lt h]

theorem bytes_cells (ip : Nat) (_hip : ip < 4294967296) (port : Nat) (hp : port ≤ 65535) : bArr ip port 4 = ((bytesL ip port).map fun b => Value.int .u8 (b.toNat : Int)).toArray := by
 simp only [bytesL, List.map_cons, List.map_nil, ofN _ (ipB_lt ip _), ofN (port / 256) (by omega), ofN (port % 256) (by omega)]
 rfl

theorem bytes_conv (w : World) (ip : Nat) (hip : ip < 4294967296) (port : Nat) (hp : port ≤ 65535) (m : Nat) :
  (convert 132 9 (.slice (some ⟨w.heap.size, 0, none⟩) 16 16)).run Tryz.prog ((w.alloc (.cells (bArr ip port 4) 214)).drewN m) = .ok (.string ⟨(bytesL ip port).toArray⟩) ((w.alloc (.cells (bArr ip port 4) 214)).drewN m) := by
 refine run_convert_bytes_back (P := Tryz.prog) _ 132 9 5 ⟨w.heap.size, 0, none⟩ 16 (bytesL ip port) Tryz.underlying132 Tryz.underlying5 Tryz.underlying9 fun j hj => ?_
 have h : ((w.alloc (.cells (bArr ip port 4) 214)).drewN m).heap[w.heap.size]? = some (.cells (bArr ip port 4) 214 (0, 0)) := heap_alloc_new w _
 rw [show (⟨w.heap.size, 0, none⟩ : Addr).add j = ⟨w.heap.size, j, none⟩ by simp [Addr.add]; omega, cell_of_row _ _ j _ _ _ h, bytes_cells ip hip port hp]
 simp [hj]

theorem bytes_any (ip : Nat) (hip : ip < 4294967296) (port : Nat) (hp : port ≤ 65535) (w : World) : Calls Tryz.prog 111 #[.int .u32 ip, .int .i64 port] w fun e w' => e = .returned (.tuple #[.string ⟨(bytesL ip port).toArray⟩, .nilIface]) ∧ Below w.heap.size w w' := by
 go_enter Tryz.func111, Tryz.ntmps111
 go_wp2
 go_loopw [21] (fun i w' => ∃ k m : Nat, k ≤ 4 ∧ i = .int .i64 k ∧ w' = (w.alloc (.cells (bArr ip port k) 214)).drewN m) (fun i _ => 4 - (intOf i).toNat)
 case atStart => exact ⟨0, 0, by omega, rfl, rfl⟩
 case round =>
  obtain ⟨k, m, hk, rfl, rfl⟩ := hrel
  by_cases hlt : k < 4
  ·
   have hg := bArr_get ip port k hlt
   go_wp2_with (go_at_call 126; refine (ipByte_any ip k hip (by omega) _).mono ?_; rintro e w' ⟨rfl, rfl⟩)
   go_round
   case rel => exact ⟨k + 1, m, by omega, by go_num, bArr_world w ip port k m hlt⟩
   case measure => simp [intOf]; omega
  ·
   obtain rfl : k = 4 := by omega
   have hcv := bytes_conv w ip hip port hp m
   go_wp2
   go_ret2
   exact ⟨rfl, below_drewN' ((Below.refl _ _).alloc (Nat.le_refl _) _) _⟩
end Go.Proofs.YtklibmijiecbfaaGreat

/- Bytes read as an address: the code's and the document's. -/
namespace Go.Proofs.YtklibmijiecbfaaGreat
open Go.RowKit

def portOf (s : ByteArray) : Nat := byteAt s 2 * 256 + byteAt s 3
def ipR (s : ByteArray) : Nat → Nat
 | 0 => 0
 | k + 1 => ipR s k * 256 + byteAt s (4 + k)
theorem ipR_lt (s : ByteArray) : ∀ k, ipR s k < 256 ^ k
 | 0 => Nat.one_pos
 | k + 1 => by
  have h1 := ipR_lt s k
  have h2 := byteAt_lt s (4 + k)
  rw [ipR, Nat.pow_succ]
  omega
theorem ipR_step (s : ByteArray) (k : Nat) (hk : k < 4) : bits .or .u32 ((ipR s k : Int) * 256 % 4294967296) ((byteAt s (4 + k) : Int) % 4294967296) = ((ipR s (k + 1) : Nat) : Int) := by
 have h1 := ipR_lt s k
 have h2 := byteAt_lt s (4 + k)
 have h3 : ipR s k < 16777216 := Nat.lt_of_lt_of_le h1 (Nat.pow_le_pow_right (n := 256) (j := 3) (by decide) (by omega))
 rw [show (ipR s k : Int) * 256 % 4294967296 = (ipR s k : Int) * 256 by omega, show (byteAt s (4 + k) : Int) % 4294967296 = byteAt s (4 + k) by omega, u32_or8 _ _ h3 h2]
 rfl
def readR (s : ByteArray) : Option (Nat × Nat) := if s.size = 16 ∧ bytesL (ipR s 4) (portOf s) = s.data.toList then some (ipR s 4, portOf s) else none
def readV : Option (Nat × Nat) → Value
 | none => .tuple #[.int .u32 0, .int .i64 0, .iface 82 (.int .i64 3)]
 | some (ip, p) => .tuple #[.int .u32 ip, .int .i64 p, .nilIface]

theorem aread_any (s : ByteArray) (w : World) : Calls Tryz.prog 84 #[.string s] w fun e w' => e = .returned (readV (readR s)) ∧ Below w.heap.size w w' := by
 by_cases hs : s.size = 16
 ·
  have b2 := byteAt_eq s 2 (by omega)
  have b3 := byteAt_eq s 3 (by omega)
  have l2 := byteAt_lt s 2
  have l3 := byteAt_lt s 3
  have hor := i64_or8 (byteAt s 2) (byteAt s 3) l2 l3
  go_enter Tryz.func84, Tryz.ntmps84
  go_wp2
  go_quiet (fail)
  go_wp2
  go_loopw [22, 6] (fun i x w' => ∃ k m : Nat, k ≤ 4 ∧ i = .int .i64 k ∧ x = .int .u32 (ipR s k) ∧ w' = w.drewN m) (fun i _ _ => 4 - (intOf i).toNat)
  case atStart => exact ⟨0, nq, by omega, rfl, rfl, rfl⟩
  case round =>
   obtain ⟨k, m, hk, rfl, rfl, rfl⟩ := hrel
   by_cases hlt : k < 4
   ·
    have bk := byteAt_eq s (4 + k) (by omega)
    have HQ := hide (ipR_step s k hlt)
    go_wp2
    go_round
    case rel => exact ⟨k + 1, m, by omega, by go_num, by rw [HQ.out], rfl⟩
    case measure => simp [intOf]; omega
   ·
    obtain rfl : k = 4 := by omega
    have hp : byteAt s 2 * 256 + byteAt s 3 ≤ 65535 := by omega
    have hi : ipR s 4 < 4294967296 := ipR_lt s 4
    by_cases he : bytesL (ipR s 4) (portOf s) = s.data.toList
    ·
     have HV := hide (show readV (readR s) = .tuple #[.int .u32 (ipR s 4), .int .i64 (portOf s), .nilIface] by unfold readR; rw [if_pos ⟨hs, he⟩]; rfl)
     have hc : (bytesL (ipR s 4) (byteAt s 2 * 256 + byteAt s 3) == s.toList) = true := by rw [Lib.toList_data, beq_iff_eq]; exact he
     clear he
     go_wp2_with (go_at_call 111; refine (bytes_any (ipR s 4) hi (byteAt s 2 * 256 + byteAt s 3) hp _).mono ?_; rintro e W ⟨rfl, hW⟩)
     go_ret3
     exact ⟨by rw [HV.out]; rfl, Below.trans (below_drewN' (Below.refl _ _) m) hW⟩
    ·
     have HV := hide (show readV (readR s) = .tuple #[.int .u32 0, .int .i64 0, .iface 82 (.int .i64 3)] by unfold readR; rw [if_neg (fun h => he h.2)]; rfl)
     have hc : (bytesL (ipR s 4) (byteAt s 2 * 256 + byteAt s 3) == s.toList) = false := by rw [Lib.toList_data, beq_eq_false_iff_ne]; exact he
     clear he
     go_wp2_with (go_at_call 111; refine (bytes_any (ipR s 4) hi (byteAt s 2 * 256 + byteAt s 3) hp _).mono ?_; rintro e W ⟨rfl, hW⟩)
     go_ret3
     exact ⟨by rw [HV.out]; rfl, Below.trans (below_drewN' (Below.refl _ _) m) hW⟩
 ·
  have HV := hide (show readV (readR s) = .tuple #[.int .u32 0, .int .i64 0, .iface 82 (.int .i64 3)] by unfold readR; rw [if_neg (fun h => hs h.1)]; rfl)
  have hb : ((s.size : Int) != 16) = true := by rw [bne_iff_ne]; omega
  go_enter Tryz.func84, Tryz.ntmps84
  go_wp2
  go_ret3
  exact ⟨by rw [HV.out]; rfl, Below.refl _ _⟩

theorem readR_bytes (ip port : Nat) (hip : ip < 4294967296) (hp : port ≤ 65535) : readR ⟨(bytesL ip port).toArray⟩ = some (ip, port) := by
 have h1 : portOf ⟨(bytesL ip port).toArray⟩ = port := by
  show (UInt8.ofNat (port / 256)).toNat * 256 + (UInt8.ofNat (port % 256)).toNat = port
  rw [UInt8.toNat_ofNat', UInt8.toNat_ofNat']
  omega
 have h2 : ipR ⟨(bytesL ip port).toArray⟩ 4 = ip := by
  show (((0 * 256 + (UInt8.ofNat (ipB ip 0)).toNat) * 256 + (UInt8.ofNat (ipB ip 1)).toNat) * 256 + (UInt8.ofNat (ipB ip 2)).toNat) * 256 + (UInt8.ofNat (ipB ip 3)).toNat = ip
  rw [UInt8.toNat_ofNat', UInt8.toNat_ofNat', UInt8.toNat_ofNat', UInt8.toNat_ofNat']
  unfold ipB
  simp only [Nat.mod_mod]
  omega
 unfold readR
 rw [h1, h2, if_pos ⟨rfl, rfl⟩]
end Go.Proofs.YtklibmijiecbfaaGreat

/- A ward, as it stands, and what each step makes of it: no walk in it. -/
namespace Go.Proofs.YtklibmijiecbfaaGreat
open Mm

def updF {α : Type} (f : Nat → α) (i : Nat) (x : α) : Nat → α := fun j => if j = i then x else f j
theorem updF_same {α : Type} (f : Nat → α) (i : Nat) (x : α) : updF f i x i = x := if_pos rfl
theorem updF_other {α : Type} (f : Nat → α) {i j : Nat} (x : α) (h : j ≠ i) : updF f i x j = f j := if_neg h
theorem updF_again {α : Type} (f : Nat → α) (i : Nat) (x y : α) : updF (updF f i x) i y = updF f i y := by
 funext j
 unfold updF
 split <;> rfl
def zeroVL : VL := ⟨ByteArray.empty, 0, 0⟩
def zeroKL : KL := ⟨0, 0, 0, 0, 0, 0⟩
structure TH where
 phase : Nat
 call : KL
 args : Nat → Nat
 sld : Nat → Bool
 seen : Nat
 read : W8
 vals : Nat → VL
def idleT (ph : Nat) : TH := ⟨ph, zeroKL, fun _ => 0, fun _ => false, 0, [], fun _ => zeroVL⟩
def enterT (c : KL) : TH := ⟨1, c, regN c, fun _ => false, 0, [], fun _ => zeroVL⟩
structure EN where
 kind : Nat
 thr : Nat
 call : KL
 vals : VS
 errno : Int
structure WS where
 T : Nat → TH
 mem : MS
 log : List EN
def vsOf (f : Nat → VL) : VS := ⟨f 0, f 1, f 2, f 3⟩
def zeroVS : VS := vsOf fun _ => zeroVL
def WS.put (s : WS) (n : Nat) (t : TH) : WS := { s with T := updF s.T n t }
def newS : WS := ⟨fun _ => idleT 0, zeroM, []⟩

def freeM (m : MS) (a : Nat) : MS := if 8 ≤ a / 64 ∧ a / 64 < 12 ∧ a % 64 = 0 ∧ m.rd (a / 64) = true then dropM m (a / 64) else m
def freeT (t : TH) (m : MS) : Nat → MS
 | 0 => m
 | i + 1 => if t.sld i = true then freeM (freeT t m i) (t.args i) else freeT t m i
def endS (n kind : Nat) (errno : Int) (v : VS) (s : WS) : WS :=
 ⟨updF s.T n (idleT (if kind = 3 then 6 else 0)), freeT (s.T n) s.mem 4, s.log ++ [⟨kind, n, (s.T n).call, v, errno⟩]⟩
def doS (n : Nat) (a : ACT) (next : Nat) (s : WS) : WS :=
 if a.kind = 1 then s.put n { s.T n with phase := next } else if a.kind = 2 then endS n 2 a.errno zeroVS s else endS n 3 0 zeroVS s
def ptsOf (nr : Nat) : List Nat := if nr ≤ 8 then (List.range 4).filter fun i => decide (2 ≤ kindAt nr i) else []
def valOf (k : Nat) (l : W8) : Option VL :=
 if k = 3 then (readR (bs l)).map fun x => ⟨ByteArray.empty, x.1, x.2⟩ else if l.getLast? = some 0 then some ⟨bs l.dropLast, 0, 0⟩ else none
def valErr (k : Nat) : Nat := if k = 3 then 22 else 36
def wholeB (k : Nat) (l : W8) : Bool := if k = 3 then l.length == 16 else l.getLast? == some 0 || decide (40 < l.length)
def ptAt (t : TH) : Nat := (ptsOf t.call.nr).getD t.seen 0
def snapL (n : Nat) (l : W8) (s : WS) : WS :=
 let t := s.T n
 let k := kindAt t.call.nr (ptAt t)
 if wholeB k l = true then (match valOf k l with
  | none => endS n 2 (valErr k : Nat) zeroVS s
  | some v => s.put n { t with vals := updF t.vals (ptAt t) v, read := [], seen := t.seen + 1, phase := if t.seen + 1 = (ptsOf t.call.nr).length then 3 else 2 })
 else s.put n { t with read := l }
def snapS (n : Nat) (s : WS) : WS :=
 match peek s.mem (((s.T n).args (ptAt (s.T n)) + (s.T n).read.length) % 18446744073709551616) with
 | none => endS n 2 14 zeroVS s
 | some b => snapL n ((s.T n).read ++ [UInt8.ofNat b]) s
def filterS (p : POL) (n : Nat) (s : WS) : WS :=
 if (judgeR p (s.T n).call).1.kind = 4 then s.put n { s.T n with phase := 2 } else doS n (judgeR p (s.T n).call).1 5 s
def judgeS (p : POL) (n : Nat) (s : WS) : WS := doS n (decideR p (s.T n).call (vsOf (s.T n).vals)) 4 s
def bytesV (k : Nat) (v : VL) : W8 := if k = 3 then bytesL v.ip v.port.toNat else v.path.data.toList ++ [0]
def freeQ (m : MS) : Option Nat := [8, 9, 10, 11].find? fun q => !m.rd q
def sealL (n : Nat) : List Nat → WS → WS
 | [], s => s.put n { s.T n with phase := 5 }
 | i :: r, s => match freeQ s.mem with
  | none => endS n 2 12 zeroVS s
  | some q => sealL n r ⟨updF s.T n { s.T n with args := updF (s.T n).args i (q * 64), sld := updF (s.T n).sld i true }, sealM s.mem q (bytesV (kindAt (s.T n).call.nr i) ((s.T n).vals i)), s.log⟩
def sealS (n : Nat) (s : WS) : WS := sealL n (ptsOf (s.T n).call.nr) s
def followF (m : MS) (k a : Nat) : VL ⊕ Nat :=
 if k = 2 then (match Mm.textP (peek m) a 41 0 [] with
  | (0, l) => .inl ⟨⟨(bytesOf l).toArray⟩, 0, 0⟩
  | (e, _) => .inr (if e = 5 then 14 else 36))
 else match getR m a 16 with
  | none => .inr 14
  | some l => match readR ⟨(bytesOf l).toArray⟩ with
   | some x => .inl ⟨ByteArray.empty, x.1, x.2⟩
   | none => .inr 22
def execL (n : Nat) (s : WS) : List Nat → (Nat → VL) → WS
 | [], v => endS n 1 0 (vsOf v) s
 | i :: r, v => match followF s.mem (kindAt (s.T n).call.nr i) ((s.T n).args i) with
  | .inl x => execL n s r (updF v i x)
  | .inr e => endS n 2 e zeroVS s
def execS (n : Nat) (s : WS) : WS := if 8 < (s.T n).call.nr then endS n 2 38 zeroVS s else execL n s (ptsOf (s.T n).call.nr) fun _ => zeroVL
def stepS (p : POL) (n : Nat) (s : WS) : WS :=
 match (s.T n).phase with
 | 1 => filterS p n s
 | 2 => snapS n s
 | 3 => judgeS p n s
 | 4 => sealS n s
 | 5 => execS n s
 | _ => s
def stepW (p : POL) (n : Int) (s : WS) : WS × Bool × Nat :=
 if 0 ≤ n ∧ n < 3 then
  (if (s.T n.toNat).phase = 6 then (s, false, 8) else if (s.T n.toNat).phase = 0 then (s, false, 0) else (stepS p n.toNat s, true, 0))
 else (s, false, 1)
def enterW (n : Int) (c : KL) (s : WS) : WS × Nat :=
 if 0 ≤ n ∧ n < 3 then
  (if (s.T n.toNat).phase = 6 then (s, 8) else if (s.T n.toNat).phase = 0 then (s.put n.toNat (enterT c), 0) else (s, 7))
 else (s, 1)
def phaseW (n : Int) (s : WS) : Nat := if 0 ≤ n ∧ n < 3 then (s.T n.toNat).phase else 6
def mapW (n : Int) (b : Bool) (m : MS) : MS × Nat := if 0 ≤ n ∧ n < 8 then (setWt (setRd m n.toNat true) n.toNat b, 0) else (m, 5)
def unmapW (n : Int) (m : MS) : MS × Nat := if 0 ≤ n ∧ n < 8 ∧ m.rd n.toNat = true then (dropM m n.toNat, 0) else (m, 5)
open Classical in
noncomputable def putW (a : Nat) (l : ByteArray) (m : MS) : MS × Nat := if ∀ i, i < l.size → goodM m (addrI a i) then (writeBy m a l.data.toList, 0) else (m, 5)
end Go.Proofs.YtklibmijiecbfaaGreat

/- What always holds of a ward: no walk in it. -/
namespace Go.Proofs.YtklibmijiecbfaaGreat
open Mm

def ValOk (k : Nat) (v : VL) : Prop :=
 (k = 2 ∧ v.path.size ≤ 40 ∧ (0 : UInt8) ∉ v.path.data.toList ∧ v.ip = 0 ∧ v.port = 0) ∨ (k = 3 ∧ v.path = ByteArray.empty ∧ v.ip < 4294967296 ∧ ∃ q : Nat, v.port = q ∧ q ≤ 65535)
def readOk (k : Nat) (l : W8) : Prop := (k = 3 → l.length < 16) ∧ (k ≠ 3 → l.length ≤ 40 ∧ (0 : UInt8) ∉ l)
theorem pts_all : ∀ nr, nr ≤ 8 → (ptsOf nr).length ≤ 2 ∧ (ptsOf nr).Nodup ∧ ∀ i ∈ ptsOf nr, i < 4 ∧ (kindAt nr i = 2 ∨ kindAt nr i = 3) := by
 intro nr h
 rcases nine h with rfl | rfl | rfl | rfl | rfl | rfl | rfl | rfl | rfl <;> decide
theorem pts_of {nr i : Nat} (h : i ∈ ptsOf nr) : nr ≤ 8 ∧ i < 4 ∧ (kindAt nr i = 2 ∨ kindAt nr i = 3) := by
 by_cases h8 : nr ≤ 8
 ·
  exact ⟨h8, (pts_all nr h8).2.2 i h⟩
 ·
  unfold ptsOf at h
  rw [if_neg h8] at h
  cases h
theorem pts_mem {nr i : Nat} (h8 : nr ≤ 8) (hi : i < 4) (hk : 2 ≤ kindAt nr i) : i ∈ ptsOf nr := by
 unfold ptsOf
 rw [if_pos h8, List.mem_filter, List.mem_range]
 exact ⟨hi, by simpa using hk⟩
theorem pts_few (nr : Nat) : (ptsOf nr).length ≤ 2 := by
 by_cases h8 : nr ≤ 8
 ·
  exact (pts_all nr h8).1
 ·
  unfold ptsOf; rw [if_neg h8]; simp
theorem pts_nodup (nr : Nat) : (ptsOf nr).Nodup := by
 by_cases h8 : nr ≤ 8
 ·
  exact (pts_all nr h8).2.1
 ·
  unfold ptsOf; rw [if_neg h8]; exact List.nodup_nil

def Flat (p : POL) (t : TH) : Prop := (judgeR p t.call).1.kind = 1 ∧ (∀ i, t.sld i = false) ∧ t.args = regN t.call
def ValsOk (t : TH) (l : List Nat) : Prop := ∀ i, (i ∈ l → ValOk (kindAt t.call.nr i) (t.vals i)) ∧ (i ∉ l → t.vals i = zeroVL)
structure Sealed (p : POL) (t : TH) : Prop where
 nr : t.call.nr ≤ 8
 dec : (decideR p t.call (vsOf t.vals)).kind = 1
 sld : ∀ i, t.sld i = true ↔ i ∈ ptsOf t.call.nr
 vok : ValsOk t (ptsOf t.call.nr)
structure TOk (p : POL) (t : TH) : Prop where
 ph : t.phase ≤ 6
 kl : KlOk t.call
 ar : ∀ i, t.args i < 18446744073709551616
 off : t.phase = 0 ∨ t.phase = 6 → t = idleT t.phase
 ent : t.phase = 1 → t = enterT t.call
 plain : t.phase ≠ 5 → (∀ i, t.sld i = false) ∧ t.args = regN t.call
 trc : 2 ≤ t.phase → t.phase ≤ 4 → t.call.nr ≤ 8
 snap : t.phase = 2 → t.seen < (ptsOf t.call.nr).length ∧ readOk (kindAt t.call.nr (ptAt t)) t.read
 vok : 2 ≤ t.phase → t.phase ≤ 4 → ValsOk t ((ptsOf t.call.nr).take t.seen)
 full : 3 ≤ t.phase → t.phase ≤ 4 → t.seen = (ptsOf t.call.nr).length ∧ t.read = []
 dec : t.phase = 4 → (decideR p t.call (vsOf t.vals)).kind = 1
 ex : t.phase = 5 → Flat p t ∨ Sealed p t

def Stands (m : MS) (q : Nat) (l : W8) : Prop := l.length ≤ 64 ∧ ∀ j, j < l.length → m.byte (q * 64 + j) = (l.getD j 0).toNat
structure MOk (s : WS) : Prop where
 fine : Fine s.mem
 own : ∀ q, 8 ≤ q → q < 12 → s.mem.rd q = true → ∃ n i, n < 3 ∧ i < 4 ∧ (s.T n).sld i = true ∧ (s.T n).args i = q * 64
 held : ∀ n i, n < 3 → (s.T n).sld i = true → i < 4 ∧ ∃ q, 8 ≤ q ∧ q < 12 ∧ (s.T n).args i = q * 64 ∧ s.mem.rd q = true ∧ Stands s.mem q (bytesV (kindAt (s.T n).call.nr i) ((s.T n).vals i))
 uniq : ∀ n i n' i', n < 3 → n' < 3 → (s.T n).sld i = true → (s.T n').sld i' = true → (s.T n).args i = (s.T n').args i' → n = n' ∧ i = i'
structure EnOk (p : POL) (e : EN) : Prop where
 kind : 1 ≤ e.kind ∧ e.kind ≤ 3
 thr : e.thr < 3
 kl : KlOk e.call
 vs : VsOk e.vals
 errno : 0 ≤ e.errno ∧ e.errno ≤ 255
 safe : e.kind = 1 → (decideR p e.call e.vals).kind = 1
structure Inv (p : POL) (s : WS) : Prop where
 thr : ∀ n, n < 3 → TOk p (s.T n)
 mem : MOk s
 log : ∀ e ∈ s.log, EnOk p e

theorem dropByte (m : MS) (q x : Nat) : (dropM m q).byte x = if q * 64 ≤ x ∧ x < q * 64 + 64 then 0 else m.byte x := by
 unfold dropM writeBy
 simp only [setWt, setRd, Z64_len]
 split
 ·
  unfold Z64
  rw [List.getD_eq_getElem?_getD, List.getElem?_replicate]
  split <;> rfl
 ·
  rfl
theorem dropWt (m : MS) (q n : Nat) : (dropM m q).wt n = if n = q then false else m.wt n := rfl
theorem dropRd (m : MS) (q n : Nat) : (dropM m q).rd n = if n = q then false else m.rd n := rfl
theorem fine_dropM {m : MS} (h : Fine m) (q : Nat) : Fine (dropM m q) := ⟨fun x => by
  rw [dropByte]
  split
  ·
   omega
  ·
   exact h.bytes x, fun n h8 h12 => by
  rw [dropWt]
  split
  ·
   rfl
  ·
   exact h.wt n h8 h12⟩
theorem freeT_all (t : TH) (m : MS) : ∀ i, (∀ j, t.sld j = true → ∃ q, 8 ≤ q ∧ q < 12 ∧ t.args j = q * 64) →
  (∀ q, (freeT t m i).rd q = true ↔ m.rd q = true ∧ ∀ j, j < i → t.sld j = true → t.args j ≠ q * 64) ∧ (Fine m → Fine (freeT t m i)) ∧
  (∀ x, (∀ j, j < i → t.sld j = true → t.args j ≠ x / 64 * 64) → (freeT t m i).byte x = m.byte x)
 | 0, _ => ⟨fun q => ⟨fun h => ⟨h, fun j hj => by omega⟩, fun h => h.1⟩, fun h => h, fun x _ => rfl⟩
 | i + 1, hq => by
  obtain ⟨h1, h2, h3⟩ := freeT_all t m i hq
  unfold freeT
  by_cases hs : t.sld i = true
  ·
   rw [if_pos hs]
   obtain ⟨q0, hq8, hq12, hqa⟩ := hq i hs
   unfold freeM
   rw [hqa, Nat.mul_div_cancel _ (by omega : 0 < 64)]
   by_cases hr : (freeT t m i).rd q0 = true
   ·
    rw [if_pos ⟨hq8, hq12, by omega, hr⟩]
    refine ⟨fun q => ?_, fun hf => fine_dropM (h2 hf) _, fun x hx => ?_⟩
    ·
     rw [dropRd]
     by_cases hqq : q = q0
     ·
      rw [if_pos hqq]
      constructor
      ·
       intro h; cases h
      ·
       intro h
       exact absurd (by rw [hqa, hqq]) (h.2 i (by omega) hs)
     ·
      rw [if_neg hqq, h1]
      refine ⟨fun h => ⟨h.1, fun j hj hsj => ?_⟩, fun h => ⟨h.1, fun j hj => h.2 j (by omega)⟩⟩
      by_cases hji : j = i
      ·
       rw [hji, hqa]; omega
      ·
       exact h.2 j (by omega) hsj
    ·
     rw [dropByte, if_neg ?_]
     ·
      exact h3 x fun j hj => hx j (by omega)
     ·
      have := hx i (by omega) hs
      rw [hqa] at this
      omega
   ·
    rw [if_neg (fun h => hr h.2.2.2)]
    refine ⟨fun q => ?_, h2, fun x hx => h3 x fun j hj => hx j (by omega)⟩
    rw [h1]
    refine ⟨fun h => ⟨h.1, fun j hj hsj => ?_⟩, fun h => ⟨h.1, fun j hj => h.2 j (by omega)⟩⟩
    by_cases hji : j = i
    ·
     rw [hji, hqa]
     intro he
     have hqq : q0 = q := by omega
     refine hr ?_
     rw [hqq, h1]
     exact h
    ·
     exact h.2 j (by omega) hsj
  ·
   rw [if_neg hs]
   refine ⟨fun q => ?_, h2, fun x hx => h3 x fun j hj => hx j (by omega)⟩
   rw [h1]
   refine ⟨fun h => ⟨h.1, fun j hj hsj => ?_⟩, fun h => ⟨h.1, fun j hj => h.2 j (by omega)⟩⟩
   by_cases hji : j = i
   ·
    rw [hji] at hsj; exact absurd hsj hs
   ·
    exact h.2 j (by omega) hsj

theorem vsOf_ok {f : Nat → VL} (h : ∀ i, i < 4 → VlOk (f i)) : VsOk (vsOf f) := ⟨h 0 (by omega), h 1 (by omega), h 2 (by omega), h 3 (by omega)⟩
theorem zeroVL_ok : VlOk zeroVL := ⟨by unfold zeroVL; simp, by unfold zeroVL; simp, i64_nat (k := 0) (by omega)⟩
theorem zeroVS_ok : VsOk zeroVS := vsOf_ok fun _ _ => zeroVL_ok
theorem ValOk.vl {k : Nat} {v : VL} (h : ValOk k v) : VlOk v := by
 rcases h with ⟨_, h1, _, h3, h4⟩ | ⟨_, h1, h2, q, h3, h4⟩
 ·
  exact ⟨by omega, by omega, by rw [h4]; exact i64_nat (k := 0) (by omega)⟩
 ·
  exact ⟨by rw [h1]; simp, h2, by rw [h3]; exact i64_nat (by omega)⟩
theorem ValsOk.vs {t : TH} {l : List Nat} (h : ValsOk t l) : VsOk (vsOf t.vals) := vsOf_ok fun i _ => by
 by_cases hi : i ∈ l
 ·
  exact ((h i).1 hi).vl
 ·
  rw [(h i).2 hi]; exact zeroVL_ok
theorem idle_ok (p : POL) (ph : Nat) (h : ph = 0 ∨ ph = 6) : TOk p (idleT ph) := by
 have kz : KlOk (idleT ph).call := ⟨by simp [idleT, zeroKL], by simp [idleT, zeroKL], by simp [idleT, zeroKL], by simp [idleT, zeroKL], by simp [idleT, zeroKL], by simp [idleT, zeroKL]⟩
 have hp : (idleT ph).phase = ph := rfl
 refine ⟨by rw [hp]; omega, kz, fun i => by simp [idleT], fun _ => rfl, fun h1 => by rw [hp] at h1; omega, fun _ => ⟨fun _ => rfl, ?_⟩, fun h1 h2 => by rw [hp] at h1 h2; omega, fun h1 => by rw [hp] at h1; omega, fun h1 h2 => by rw [hp] at h1 h2; omega, fun h1 h2 => by rw [hp] at h1 h2; omega, fun h1 => by rw [hp] at h1; omega, fun h1 => by rw [hp] at h1; omega⟩
 funext i
 match i with
 | 0 => rfl
 | 1 => rfl
 | 2 => rfl
 | 3 => rfl
 | _ + 4 => rfl
theorem new_inv (p : POL) : Inv p newS := ⟨fun n _ => idle_ok p 0 (.inl rfl), ⟨fine_zero, fun q _ _ h => (by cases h), fun n i _ h => (by cases h), fun n i n' i' _ _ h => by cases h⟩, fun e he => by cases he⟩
theorem enter_ok (p : POL) {c : KL} (h : KlOk c) : TOk p (enterT c) :=
 ⟨by show 1 ≤ 6; omega, h, fun i => regN_lt h i, fun h1 => (by rcases h1 with h1 | h1 <;> cases h1), fun _ => rfl, fun _ => ⟨fun _ => rfl, rfl⟩, fun h1 _ => by exact absurd h1 (by show ¬ 2 ≤ 1; omega), fun h1 => (by cases h1), fun h1 _ => by exact absurd h1 (by show ¬ 2 ≤ 1; omega), fun h1 _ => by exact absurd h1 (by show ¬ 3 ≤ 1; omega), fun h1 => (by cases h1), fun h1 => by cases h1⟩
theorem T_put (s : WS) (n : Nat) (t : TH) : (s.put n t).T n = t := updF_same _ _ _
theorem T_else (s : WS) {n k : Nat} (t : TH) (h : k ≠ n) : (s.put n t).T k = s.T k := updF_other _ _ h
theorem MOk.put {s : WS} (h : MOk s) {n : Nat} {t : TH} (hs : t.sld = (s.T n).sld) (ha : ∀ i, t.sld i = true → t.args i = (s.T n).args i ∧ t.call = (s.T n).call ∧ t.vals i = (s.T n).vals i) : MOk (s.put n t) := by
 have key : ∀ k, ((s.put n t).T k).sld = (s.T k).sld := fun k => by
  by_cases hk : k = n
  ·
   subst hk; rw [T_put, hs]
  ·
   rw [T_else _ _ hk]
 have ka : ∀ k i, (s.T k).sld i = true → ((s.put n t).T k).args i = (s.T k).args i := fun k i hi => by
  by_cases hk : k = n
  ·
   subst hk; rw [T_put]; exact (ha i (by rw [hs]; exact hi)).1
  ·
   rw [T_else _ _ hk]
 refine ⟨h.fine, fun q h8 h12 hr => ?_, fun k i hk hi => ?_, fun k i k' i' hk hk' hi hi' he => ?_⟩
 ·
  obtain ⟨k, i, hk, hi, h1, h2⟩ := h.own q h8 h12 hr
  exact ⟨k, i, hk, hi, by rw [key]; exact h1, by rw [ka k i h1]; exact h2⟩
 ·
  rw [key] at hi
  obtain ⟨h4, q, q1, q2, q3, q4, q5⟩ := h.held k i hk hi
  refine ⟨h4, q, q1, q2, by rw [ka k i hi]; exact q3, q4, ?_⟩
  by_cases hkn : k = n
  ·
   subst hkn
   rw [T_put]
   obtain ⟨_, e1, e2⟩ := ha i (by rw [hs]; exact hi)
   rw [e1, e2]
   exact q5
  ·
   rw [T_else _ _ hkn]
   exact q5
 ·
  rw [key] at hi hi'
  rw [ka k i hi, ka k' i' hi'] at he
  exact h.uniq k i k' i' hk hk' hi hi' he
theorem Inv.put {p : POL} {s : WS} (h : Inv p s) {n : Nat} {t : TH} (hs : t.sld = (s.T n).sld) (ha : ∀ i, t.sld i = true → t.args i = (s.T n).args i ∧ t.call = (s.T n).call ∧ t.vals i = (s.T n).vals i) (ht : TOk p t) : Inv p (s.put n t) :=
 ⟨fun k hk => by
  by_cases hkn : k = n
  ·
   subst hkn; rw [T_put]; exact ht
  ·
   rw [T_else _ _ hkn]; exact h.thr k hk, h.mem.put hs ha, h.log⟩
theorem MOk.end {s : WS} (h : MOk s) {n : Nat} (hn : n < 3) (kind : Nat) (errno : Int) (v : VS) : MOk (endS n kind errno v s) := by
 have hq : ∀ j, (s.T n).sld j = true → ∃ q, 8 ≤ q ∧ q < 12 ∧ (s.T n).args j = q * 64 := fun j hj => by
  obtain ⟨_, q, q1, q2, q3, _⟩ := h.held n j hn hj
  exact ⟨q, q1, q2, q3⟩
 obtain ⟨f1, f2, f3⟩ := freeT_all (s.T n) s.mem 4 hq
 have tn : (endS n kind errno v s).T n = idleT (if kind = 3 then 6 else 0) := updF_same _ _ _
 have te : ∀ k, k ≠ n → (endS n kind errno v s).T k = s.T k := fun k hk => updF_other _ _ hk
 have hm : (endS n kind errno v s).mem = freeT (s.T n) s.mem 4 := rfl
 have off : ∀ k i, ((endS n kind errno v s).T k).sld i = true → k ≠ n := fun k i hi hk => by
  subst hk
  rw [tn] at hi
  cases hi
 refine ⟨f2 h.fine, fun q h8 h12 hr => ?_, fun k i hk hi => ?_, fun k i k' i' hk hk' hi hi' he => ?_⟩
 ·
  rw [hm, f1] at hr
  obtain ⟨k, i, hk, hi, h1, h2⟩ := h.own q h8 h12 hr.1
  have hkn : k ≠ n := fun e => by
   subst e
   exact hr.2 i hi h1 h2
  exact ⟨k, i, hk, hi, by rw [te k hkn]; exact h1, by rw [te k hkn]; exact h2⟩
 ·
  have hkn := off k i hi
  rw [te k hkn] at hi ⊢
  obtain ⟨h4, q, q1, q2, q3, q4, q5⟩ := h.held k i hk hi
  have hne : ∀ j, j < 4 → (s.T n).sld j = true → (s.T n).args j ≠ q * 64 := fun j _ hj he => hkn (h.uniq k i n j hk hn hi hj (by rw [q3, he])).1
  refine ⟨h4, q, q1, q2, q3, by rw [hm, f1]; exact ⟨q4, hne⟩, q5.1, fun j hj => ?_⟩
  rw [hm, f3]
  ·
   exact q5.2 j hj
  ·
   intro j' hj' hs' he
   have hl := q5.1
   rw [show (q * 64 + j) / 64 = q by omega] at he
   exact hne j' hj' hs' he
 ·
  have hkn := off k i hi
  have hkn' := off k' i' hi'
  rw [te k hkn] at hi
  rw [te k' hkn'] at hi'
  rw [te k hkn, te k' hkn'] at he
  exact h.uniq k i k' i' hk hk' hi hi' he
theorem end_inv {p : POL} {s : WS} {n : Nat} (hn : n < 3) (hm : MOk s) (ht : ∀ k, k < 3 → k ≠ n → TOk p (s.T k)) (hl : ∀ e ∈ s.log, EnOk p e) (kind : Nat) (errno : Int) (v : VS) (he : EnOk p ⟨kind, n, (s.T n).call, v, errno⟩) : Inv p (endS n kind errno v s) :=
 ⟨fun k hk => by
  by_cases hkn : k = n
  ·
   subst hkn
   rw [show (endS k kind errno v s).T k = idleT (if kind = 3 then 6 else 0) from updF_same _ _ _]
   exact idle_ok p _ (by split <;> simp)
  ·
   rw [show (endS n kind errno v s).T k = s.T k from updF_other _ _ hkn]
   exact ht k hk hkn, hm.end hn kind errno v, fun e h => by
  rcases List.mem_append.1 h with h | h
  ·
   exact hl e h
  ·
   rw [List.mem_singleton] at h; rw [h]; exact he⟩
theorem no_entry (p : POL) {n kind : Nat} {c : KL} {errno : Int} (hn : n < 3) (hk : kind = 2 ∨ kind = 3) (hc : KlOk c) (he : 0 ≤ errno ∧ errno ≤ 255) : EnOk p ⟨kind, n, c, zeroVS, errno⟩ := ⟨by show 1 ≤ kind ∧ kind ≤ 3; omega, hn, hc, zeroVS_ok, he, fun h => by exact absurd h (by show ¬ kind = 1; omega)⟩
theorem Inv.ended {p : POL} {s : WS} (h : Inv p s) {n : Nat} (hn : n < 3) {kind : Nat} {errno : Int} (hk : kind = 2 ∨ kind = 3) (he : 0 ≤ errno ∧ errno ≤ 255) : Inv p (endS n kind errno zeroVS s) :=
 end_inv hn h.mem (fun k hk _ => h.thr k hk) h.log kind errno zeroVS (no_entry p hn hk (h.thr n hn).kl he)
end Go.Proofs.YtklibmijiecbfaaGreat

/- The steps of a ward keep what always holds: Filter, Snap, Judge. -/
namespace Go.Proofs.YtklibmijiecbfaaGreat
open Mm

theorem polF_parts {p : POL} (h : polF p = 0) : actF p.els = 0 ∧ ∀ r ∈ p.rules, ruleF r = 0 := by
 unfold polF at h
 split at h
 ·
  cases h
 ·
  split at h
  ·
   rename_i h1
   exact ⟨h1, fun r hr => (firstF_zero.1 h) _ (List.mem_map.2 ⟨r, hr, rfl⟩)⟩
  ·
   rename_i h2
   exact absurd h h2
theorem ruleF_parts {r : RL} (h : ruleF r = 0) : 0 ≤ r.nr ∧ r.nr ≤ 8 ∧ (∀ c ∈ r.conds, condF r.nr.toNat c = 0) ∧ actF r.act = 0 := by
 unfold ruleF at h
 split at h
 ·
  cases h
 ·
  split at h
  ·
   cases h
  ·
   split at h
   ·
    rename_i h2
    exact ⟨by omega, by omega, fun c hc => (firstF_zero.1 h2) _ (List.mem_map.2 ⟨c, hc, rfl⟩), h⟩
   ·
    rename_i h2
    exact absurd h h2
theorem condF_kind {nr : Nat} {c : CD} (h : condF nr c = 0) : 0 ≤ c.arg ∧ c.arg ≤ 3 ∧ kindAt nr c.arg.toNat = kindOp c.op := by
 unfold condF at h
 split at h
 ·
  cases h
 ·
  split at h
  ·
   cases h
  ·
   rename_i h1 h2
   exact ⟨by omega, by omega, Classical.byContradiction fun h3 => h2 (.inl h3)⟩
theorem judgeFrom_trace {k : KL} {els : ACT} (he : actF els = 0) : ∀ (rs : List RL) (i : Nat), (∀ r ∈ rs, ruleF r = 0) → (judgeFrom k els rs i).1.kind = 4 → ∃ r ∈ rs, fitsB r k = true ∧ deepB r = true
 | [], i, _, h => absurd h (act_kind he)
 | r :: t, i, hr, h => by
  unfold judgeFrom at h
  split at h
  ·
   rename_i hf
   split at h
   ·
    rename_i hd
    exact ⟨r, by simp, hf, hd⟩
   ·
    exact absurd h (act_kind (ruleF_parts (hr r (by simp))).2.2.2)
  ·
   obtain ⟨x, hx, h1⟩ := judgeFrom_trace he t (i + 1) (fun y hy => hr y (by simp [hy])) h
   exact ⟨x, by simp [hx], h1⟩
theorem trace_pts {p : POL} (h : polF p = 0) {k : KL} (hj : (judgeR p k).1.kind = 4) : k.nr ≤ 8 ∧ 0 < (ptsOf k.nr).length := by
 obtain ⟨h1, h2⟩ := polF_parts h
 unfold judgeR at hj
 split at hj
 ·
  obtain ⟨r, hr, hf, hd⟩ := judgeFrom_trace h1 p.rules 0 h2 hj
  obtain ⟨q0, q8, qc, _⟩ := ruleF_parts (h2 r hr)
  unfold fitsB at hf
  rw [Bool.and_eq_true, decide_eq_true_eq] at hf
  have hn : r.nr.toNat = k.nr := by omega
  unfold deepB at hd
  obtain ⟨c, hc, hcn⟩ := List.any_eq_true.1 hd
  have hk := condF_kind (qc c hc)
  rw [hn] at hk
  refine ⟨by omega, List.length_pos_iff.2 fun he => ?_⟩
  have hm : c.arg.toNat ∈ ptsOf k.nr := pts_mem (by omega) (by omega) (by
   rw [hk.2.2]
   unfold numB at hcn
   unfold kindOp at hcn ⊢
   split
   ·
    omega
   ·
    split
    ·
     omega
    ·
     rename_i a b
     rw [if_neg a, if_neg b] at hcn
     simp at hcn)
  rw [he] at hm
  cases hm
 ·
  exact absurd hj (by decide)
theorem act_errno {a : ACT} (h : actF a = 0) : 0 ≤ a.errno ∧ a.errno ≤ 255 := by
 rcases act_cases h with rfl | rfl | ⟨n, h1, h2, rfl⟩
 ·
  exact ⟨by decide, by decide⟩
 ·
  exact ⟨by decide, by decide⟩
 ·
  exact ⟨by show (0 : Int) ≤ n; omega, by show (n : Int) ≤ 255; omega⟩
theorem judgeFrom_act {k : KL} {els : ACT} (he : actF els = 0) : ∀ (rs : List RL) (i : Nat), (∀ r ∈ rs, ruleF r = 0) → (judgeFrom k els rs i).1.kind = 4 ∨ actF (judgeFrom k els rs i).1 = 0
 | [], i, _ => .inr he
 | r :: t, i, hr => by
  unfold judgeFrom
  split
  ·
   split
   ·
    exact .inl rfl
   ·
    exact .inr (ruleF_parts (hr r (by simp))).2.2.2
  ·
   exact judgeFrom_act he t (i + 1) fun y hy => hr y (by simp [hy])
theorem judge_act {p : POL} (h : polF p = 0) (k : KL) : (judgeR p k).1.kind = 4 ∨ actF (judgeR p k).1 = 0 := by
 obtain ⟨h1, h2⟩ := polF_parts h
 unfold judgeR
 split
 ·
  exact judgeFrom_act h1 _ _ h2
 ·
  exact .inr (by decide)
theorem decideFrom_act {k : KL} {v : VS} {els : ACT} (he : actF els = 0) : ∀ (rs : List RL), (∀ r ∈ rs, ruleF r = 0) → actF (decideFrom k v els rs) = 0
 | [], _ => he
 | r :: t, hr => by
  unfold decideFrom
  split
  ·
   exact (ruleF_parts (hr r (by simp))).2.2.2
  ·
   exact decideFrom_act he t fun y hy => hr y (by simp [hy])
theorem decide_act {p : POL} (h : polF p = 0) (k : KL) (v : VS) : actF (decideR p k v) = 0 := by
 obtain ⟨h1, h2⟩ := polF_parts h
 unfold decideR
 split
 ·
  exact decideFrom_act h1 _ h2
 ·
  decide

theorem do_inv {p : POL} {s : WS} (h : Inv p s) {n : Nat} (hn : n < 3) {a : ACT} (ha : actF a = 0) {next : Nat} (ht : a.kind = 1 → TOk p { s.T n with phase := next }) : Inv p (doS n a next s) := by
 have he := act_errno ha
 unfold doS
 split
 ·
  rename_i h1
  exact h.put rfl (fun i _ => ⟨rfl, rfl, rfl⟩) (ht h1)
 ·
  split
  ·
   exact h.ended hn (.inl rfl) he
  ·
   exact h.ended hn (.inr rfl) (by omega)
theorem filter_inv {p : POL} (hp : polF p = 0) {s : WS} (h : Inv p s) {n : Nat} (hn : n < 3) (hph : (s.T n).phase = 1) : Inv p (filterS p n s) := by
 have ht := h.thr n hn
 have hent := ht.ent hph
 unfold filterS
 split
 ·
  rename_i hj
  obtain ⟨h8, hpt⟩ := trace_pts hp hj
  refine h.put rfl (fun i _ => ⟨rfl, rfl, rfl⟩) ?_
  have hs : (s.T n).seen = 0 := by rw [hent]; rfl
  have hr : (s.T n).read = [] := by rw [hent]; rfl
  have hv : (s.T n).vals = fun _ => zeroVL := by rw [hent]; rfl
  refine ⟨by show 2 ≤ 6; omega, ht.kl, ht.ar, fun h1 => (by rcases h1 with h1 | h1 <;> cases h1), fun h1 => (by cases h1), fun _ => ht.plain (by omega), fun _ _ => h8, fun _ => ?_, fun _ _ i => ?_, fun h1 => by exact absurd h1 (by show ¬ 3 ≤ 2; omega), fun h1 => (by cases h1), fun h1 => by cases h1⟩
  ·
   show (s.T n).seen < _ ∧ readOk _ (s.T n).read
   rw [hs, hr]
   exact ⟨hpt, fun _ => by simp, fun _ => ⟨by simp, by simp⟩⟩
  ·
   show (i ∈ (ptsOf (s.T n).call.nr).take (s.T n).seen → _) ∧ (i ∉ _ → (s.T n).vals i = zeroVL)
   rw [hs, hv]
   exact ⟨fun hi => by simp at hi, fun _ => rfl⟩
 ·
  rename_i hj
  have ha := (judge_act hp (s.T n).call).resolve_left hj
  refine do_inv h hn ha fun h1 => ?_
  obtain ⟨hsl, har⟩ := ht.plain (by omega)
  exact ⟨by show 5 ≤ 6; omega, ht.kl, ht.ar, fun h1 => (by rcases h1 with h1 | h1 <;> cases h1), fun h1 => (by cases h1), fun h1 => absurd rfl h1, fun _ h1 => by exact absurd h1 (by show ¬ 5 ≤ 4; omega), fun h1 => (by cases h1), fun _ h1 => by exact absurd h1 (by show ¬ 5 ≤ 4; omega), fun _ h1 => by exact absurd h1 (by show ¬ 5 ≤ 4; omega), fun h1 => (by cases h1), fun _ => .inl ⟨h1, hsl, har⟩⟩
theorem judge_inv {p : POL} (hp : polF p = 0) {s : WS} (h : Inv p s) {n : Nat} (hn : n < 3) (hph : (s.T n).phase = 3) : Inv p (judgeS p n s) := by
 have ht := h.thr n hn
 refine do_inv h hn (decide_act hp _ _) fun h1 => ?_
 exact ⟨by show 4 ≤ 6; omega, ht.kl, ht.ar, fun h1 => (by rcases h1 with h1 | h1 <;> cases h1), fun h1 => (by cases h1), fun _ => ht.plain (by omega), fun _ _ => ht.trc (by omega) (by omega), fun h1 => (by cases h1), fun _ _ => ht.vok (by omega) (by omega), fun _ _ => ht.full (by omega) (by omega), fun _ => h1, fun h1 => by cases h1⟩

theorem readR_some {s : ByteArray} {x : Nat × Nat} (h : readR s = some x) : x.1 < 4294967296 ∧ x.2 ≤ 65535 ∧ bytesL x.1 x.2 = s.data.toList := by
 unfold readR at h
 split at h
 ·
  rename_i hc
  obtain rfl := Option.some.inj h
  have h1 := ipR_lt s 4
  have h2 := byteAt_lt s 2
  have h3 := byteAt_lt s 3
  refine ⟨by simpa using h1, ?_, hc.2⟩
  show portOf s ≤ 65535
  unfold portOf
  omega
 ·
  cases h
theorem getLast_snoc (l : W8) (b : UInt8) : (l ++ [b]).getLast? = some b := by simp
theorem valOf_ok {k : Nat} (hk : k = 2 ∨ k = 3) {l : W8} {b : UInt8} (hl : readOk k l) {v : VL} (h : valOf k (l ++ [b]) = some v) : ValOk k v := by
 unfold valOf at h
 rcases hk with rfl | rfl
 ·
  rw [if_neg (by omega)] at h
  split at h
  ·
   obtain rfl := Option.some.inj h
   have hl2 := hl.2 (by omega)
   refine .inl ⟨rfl, ?_, ?_, rfl, rfl⟩
   ·
    rw [bs_size, List.dropLast_concat]; exact hl2.1
   ·
    rw [bs_data, List.dropLast_concat]; exact hl2.2
  ·
   cases h
 ·
  rw [if_pos rfl] at h
  cases hr : readR (bs (l ++ [b])) with
  | none => rw [hr] at h; cases h
  | some x =>
   rw [hr] at h
   obtain rfl := Option.some.inj h
   obtain ⟨h1, h2, _⟩ := readR_some hr
   exact .inr ⟨rfl, rfl, h1, x.2, rfl, h2⟩
theorem take_next' {l : List Nat} {i : Nat} (h : i < l.length) : l.take (i + 1) = l.take i ++ [l.getD i 0] := by
 rw [List.take_add_one, List.getElem?_eq_getElem h, List.getD_eq_getElem?_getD, List.getElem?_eq_getElem h]
 rfl
theorem snap_inv {p : POL} {s : WS} (h : Inv p s) {n : Nat} (hn : n < 3) (hph : (s.T n).phase = 2) : Inv p (snapS n s) := by
 have ht := h.thr n hn
 obtain ⟨hseen, hread⟩ := ht.snap hph
 have h8 := ht.trc (by omega) (by omega)
 have hv := ht.vok (by omega) (by omega)
 have hat : ptAt (s.T n) ∈ ptsOf (s.T n).call.nr := by
  unfold ptAt
  rw [List.getD_eq_getElem?_getD, List.getElem?_eq_getElem hseen]
  exact List.getElem_mem hseen
 have hk := (pts_of hat).2.2
 have htk := take_next' hseen
 have hnot : ptAt (s.T n) ∉ (ptsOf (s.T n).call.nr).take (s.T n).seen := fun hm => by
  have hnd := pts_nodup (s.T n).call.nr
  have hnd2 : ((ptsOf (s.T n).call.nr).take ((s.T n).seen + 1)).Nodup := hnd.sublist (List.take_sublist _ _)
  rw [htk, List.nodup_append] at hnd2
  exact hnd2.2.2 _ hm _ (List.mem_singleton.2 rfl) rfl
 obtain ⟨hsl, har⟩ := ht.plain (by omega)
 unfold snapS
 split
 ·
  exact h.ended hn (.inl rfl) (by omega)
 ·
  rename_i b _
  obtain ⟨c, hc⟩ : ∃ c, c = UInt8.ofNat b := ⟨_, rfl⟩
  rw [← hc]
  unfold snapL
  simp only
  split
  ·
   split
   ·
    exact h.ended hn (.inl rfl) (by unfold valErr; split <;> omega)
   ·
    rename_i v hv2
    have hvk := valOf_ok hk hread hv2
    refine h.put rfl (fun i hi => by rw [hsl i] at hi; cases hi) ?_
    have hvo : ∀ i, (i ∈ (ptsOf (s.T n).call.nr).take ((s.T n).seen + 1) → ValOk (kindAt (s.T n).call.nr i) (updF (s.T n).vals (ptAt (s.T n)) v i)) ∧ (i ∉ (ptsOf (s.T n).call.nr).take ((s.T n).seen + 1) → updF (s.T n).vals (ptAt (s.T n)) v i = zeroVL) := fun i => by
     rw [htk, List.mem_append, List.mem_singleton, show (ptsOf (s.T n).call.nr).getD (s.T n).seen 0 = ptAt (s.T n) from rfl]
     by_cases hi : i = ptAt (s.T n)
     ·
      subst hi
      rw [updF_same]
      exact ⟨fun _ => hvk, fun hno => absurd (.inr rfl) hno⟩
     ·
      rw [updF_other _ _ hi]
      exact ⟨fun hm => (hv i).1 (hm.resolve_right hi), fun hno => (hv i).2 fun hm => hno (.inl hm)⟩
    by_cases hend : (s.T n).seen + 1 = (ptsOf (s.T n).call.nr).length
    ·
     rw [if_pos hend]
     exact ⟨by show 3 ≤ 6; omega, ht.kl, ht.ar, fun h1 => (by rcases h1 with h1 | h1 <;> cases h1), fun h1 => (by cases h1), fun _ => ⟨hsl, har⟩, fun _ _ => h8, fun h1 => (by cases h1), fun _ _ => hvo, fun _ _ => ⟨hend, rfl⟩, fun h1 => (by cases h1), fun h1 => by cases h1⟩
    ·
     rw [if_neg hend]
     exact ⟨by show 2 ≤ 6; omega, ht.kl, ht.ar, fun h1 => (by rcases h1 with h1 | h1 <;> cases h1), fun h1 => (by cases h1), fun _ => ⟨hsl, har⟩, fun _ _ => h8, fun _ => ⟨by show (s.T n).seen + 1 < (ptsOf (s.T n).call.nr).length; omega, fun _ => by show ([] : W8).length < 16; simp, fun _ => ⟨by show ([] : W8).length ≤ 40; simp, by simp⟩⟩, fun _ _ => hvo, fun h1 => by exact absurd h1 (by show ¬ 3 ≤ 2; omega), fun h1 => (by cases h1), fun h1 => by cases h1⟩
  ·
   rename_i hw
   refine h.put rfl (fun i hi => by rw [hsl i] at hi; cases hi) ?_
   refine ⟨by show (s.T n).phase ≤ 6; omega, ht.kl, ht.ar, fun h1 => by have h2 : (s.T n).phase = 0 ∨ (s.T n).phase = 6 := h1; omega, fun h1 => by have h2 : (s.T n).phase = 1 := h1; omega, fun _ => ⟨hsl, har⟩, fun _ _ => h8, fun _ => ⟨hseen, ?_⟩, fun _ _ => hv, fun h1 => by have h2 : 3 ≤ (s.T n).phase := h1; omega, fun h1 => by have h2 : (s.T n).phase = 4 := h1; omega, fun h1 => by have h2 : (s.T n).phase = 5 := h1; omega⟩
   show readOk (kindAt (s.T n).call.nr (ptAt (s.T n))) ((s.T n).read ++ [c])
   unfold wholeB at hw
   refine ⟨fun h3 => ?_, fun h3 => ?_⟩
   ·
    rw [if_pos h3] at hw
    have := hread.1 h3
    rw [List.length_append, List.length_singleton] at hw ⊢
    simp at hw
    omega
   ·
    rw [if_neg h3, getLast_snoc] at hw
    simp at hw
    have hr := hread.2 h3
    refine ⟨by rw [List.length_append, List.length_singleton]; omega, fun hm => ?_⟩
    rcases List.mem_append.1 hm with hm | hm
    ·
     exact hr.2 hm
    ·
     exact hw.1 (List.mem_singleton.1 hm).symm
end Go.Proofs.YtklibmijiecbfaaGreat
