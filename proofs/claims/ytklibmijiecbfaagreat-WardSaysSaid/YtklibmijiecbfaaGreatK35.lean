/- exec. -/
import Derived.Test.YtklibmijiecbfaaGreatK34
import Derived.Test.YtklibmijiecbfaaGreatK20
namespace Go.Proofs.YtklibmijiecbfaaGreat
open Go.RowKit Mm

def cellV (v : Nat → VL) (j : Nat) : Value := if j % 3 = 0 then .string (v (j / 3)).path else if j % 3 = 1 then .int .u32 (v (j / 3)).ip else .int .i64 (v (j / 3)).port
theorem cellV_zero : VA 12 (cellV fun _ => zeroVL) = #[.string ⟨#[]⟩, .int .u32 0, .int .i64 0, .string ⟨#[]⟩, .int .u32 0, .int .i64 0, .string ⟨#[]⟩, .int .u32 0, .int .i64 0, .string ⟨#[]⟩, .int .u32 0, .int .i64 0] := by
 rw [VA_eq]
 rfl
theorem ovr_VA (N g : Nat) (ty : TypeId) : ∀ (l : List Value) (o : Nat) (f : Nat → Value) (W : World), W.heap[g]? = some (.cells (VA N f) ty (0, 0)) → W.setCells g o l = W.setRow g (VA N (ovr f o l))
 | [], o, f, W, h => by
  rw [show ovr f o [] = f by funext i; unfold ovr; rw [if_neg (by simp only [List.length_nil]; omega)]]
  exact (setRow_self W g _ _ _ h).symm
 | x :: r, o, f, W, h => by
  rw [World.setCells, setCell_eq_setRow _ _ _ _ _ _ _ h, VA_set, ovr_VA N g ty r (o + 1) (updV f o x) _ (setRow_heap _ _ _ _ _ _ h), setRow_again _ _ _ _ _ _ h]
  congr 2
  funext i
  unfold ovr updV
  by_cases h1 : i = o
  ·
   subst h1
   rw [if_neg (by omega), if_pos rfl, if_pos (by simp), Nat.sub_self]
   rfl
  ·
   by_cases h2 : o + 1 ≤ i ∧ i < o + 1 + r.length
   ·
    rw [if_pos h2, if_pos (by rw [List.length_cons]; omega), show i - o = (i - (o + 1)) + 1 by omega, List.getD_cons_succ]
   ·
    rw [if_neg h2, if_neg h1, if_neg (by rw [List.length_cons]; omega)]
theorem cellV_set (v : Nat → VL) (i : Nat) (_hi : i < 4) (x : VL) : VA 12 (ovr (cellV v) (i * 3) (vlC x).toList) = VA 12 (cellV (updF v i x)) := by
 refine VA_congr _ _ _ fun j hj => ?_
 unfold ovr
 rw [show (vlC x).toList.length = 3 from rfl]
 by_cases hr : i * 3 ≤ j ∧ j < i * 3 + 3
 ·
  rw [if_pos hr]
  unfold cellV
  rcases show j = i * 3 ∨ j = i * 3 + 1 ∨ j = i * 3 + 2 by omega with rfl | rfl | rfl
  ·
   rw [if_pos (by omega), show i * 3 / 3 = i by omega, updF_same, Nat.sub_self]; rfl
  ·
   rw [if_neg (by omega), if_pos (by omega), show (i * 3 + 1) / 3 = i by omega, updF_same, show i * 3 + 1 - i * 3 = 1 by omega]; rfl
  ·
   rw [if_neg (by omega), if_neg (by omega), show (i * 3 + 2) / 3 = i by omega, updF_same, show i * 3 + 2 - i * 3 = 2 by omega]; rfl
 ·
  rw [if_neg hr]
  unfold cellV
  rw [updF_other _ _ (by omega)]
structure EXX (g gm : Nat) (P : PV) (s : WS) (lv : Value) (oa : Option Addr) (l : List Nat) (ka : Array Value) (r6 r7 : Nat) (v : Nat → VL) (W X : World) : Prop where
 sx : SX g gm P s lv oa l ka r6 W X
 vals : X.heap[r7]? = some (.cells (VA 12 (cellV v)) 68 (0, 0))
 bd : W.heap.size ≤ r7
 ne : r7 ≠ r6
 nb : 0 < l.length → ∀ b off, oa = some ⟨b, off, none⟩ → r7 ≠ b
theorem EXX.on {g gm : Nat} {P : PV} {s : WS} {lv : Value} {oa : Option Addr} {l : List Nat} {ka : Array Value} {r6 r7 : Nat} {v : Nat → VL} {W X Z : World} (h : EXX g gm P s lv oa l ka r6 r7 v W X) (hb : Below X.heap.size X Z) : EXX g gm P s lv oa l ka r6 r7 v W Z :=
 ⟨h.sx.on hb, (hb.block _ (Array.getElem?_eq_some_iff.1 h.vals).1).trans h.vals, h.bd, h.ne, h.nb⟩
theorem EXX.start {g gm : Nat} {P : PV} {s : WS} {lv : Value} {oa : Option Addr} {l : List Nat} {ka : Array Value} {r6 : Nat} {W X : World} (h : SX g gm P s lv oa l ka r6 W X) (hb : 0 < l.length → ∀ b off, oa = some ⟨b, off, none⟩ → b < X.heap.size) (c : Array Value) (hc : c = VA 12 (cellV fun _ => zeroVL)) : EXX g gm P s lv oa l ka r6 X.heap.size (fun _ => zeroVL) W (X.alloc (.cells c 68)) := by
 subst hc
 exact ⟨h.on (box_below X _), heap_alloc_new X _, h.fr.size, fun e => by have := (Array.getElem?_eq_some_iff.1 h.box).1; omega, fun h0 b off e hb' => by have := hb h0 b off e; omega⟩
theorem EXX.set {g gm : Nat} {P : PV} {s : WS} {lv : Value} {oa : Option Addr} {l : List Nat} {ka : Array Value} {r6 r7 : Nat} {v : Nat → VL} {W X : World} (h : EXX g gm P s lv oa l ka r6 r7 v W X) (h0 : WX g gm P s lv W) (i : Nat) (hi : i < 4) (x : VL) : EXX g gm P s lv oa l ka r6 r7 (updF v i x) W (X.setCells r7 (i * 3) (vlC x).toList) := by
 rw [ovr_VA 12 r7 68 _ _ _ X h.vals, cellV_set v i hi x]
 have hg := h0.glt
 have hm := h0.mlt
 have hb := h.bd
 have hl : lv.ownBlock ≠ some r7 := fun e => by have := (h0.own.lt _ e).2; omega
 have hgr := setRow_grown X r7 (VA 12 (cellV (updF v i x)))
 have ho : ∀ k, k ≠ r7 → (X.setRow r7 (VA 12 (cellV (updF v i x)))).heap[k]? = X.heap[k]? := fun k hk => row_heap X _ k _ hk
 refine ⟨⟨h.sx.ward.other hgr (by omega) (by omega) hl (Nat.le_trans h0.bd hb), ?_, (ho _ (Ne.symm h.ne)).trans h.sx.box, h.sx.bd, below_setRow h.sx.fr hb _⟩, setRow_heap _ _ _ _ _ _ h.vals, hb, h.ne, h.nb⟩
 refine ⟨fun h0 => ?_⟩
 obtain ⟨b, off, h1, h2, h3, h4⟩ := h.sx.ints.lie h0
 exact ⟨b, off, h1, h2, by rw [row_size]; exact h3, fun j y hj => by rw [cell_heap (ho b (Ne.symm (h.nb h0 b off h1)))]; exact h4 j y hj⟩
theorem entA_done (x0 x1 x2 x3 : VL) : entA ((1 : Nat) : Int) 0 zeroKL ⟨x0, x1, x2, x3⟩ 0 = #[.int .i64 1, .int .i64 0, .int .u32 0, .int .u32 0, .int .u64 0, .int .u64 0, .int .u64 0, .int .u64 0, .string x0.path, .int .u32 x0.ip, .int .i64 x0.port, .string x1.path, .int .u32 x1.ip, .int .i64 x1.port, .string x2.path, .int .u32 x2.ip, .int .i64 x2.port, .string x3.path, .int .u32 x3.ip, .int .i64 x3.port, .int .i64 0] := rfl
theorem exec_nocall {g gm : Nat} {P : PV} {s : WS} {lv : Value} {W : World} (n : Nat) (hn : n < 3) (h8 : 8 < (s.T n).call.nr) (h : WX g gm P s lv W) (hlog : s.log.length ≤ 1000000) :
  Calls Tryz.prog 31 #[.pointer (some ⟨g, 0, none⟩), .int .i64 n] W (Goes g gm P (execS n s) lv W) := by
 have j1 : (0 : Int) ≤ n := by omega
 have j2 : (n : Int) < 3 := by omega
 have HI := isCall_any (s.T n).call W
 rw [decide_eq_false (show ¬ (s.T n).call.nr < 9 by omega)] at HI
 unfold klV klC at HI
 have x1 := h.th n 1 hn (by omega)
 have x2 := h.th n 2 hn (by omega)
 have x3 := h.th n 3 hn (by omega)
 have x4 := h.th n 4 hn (by omega)
 have x5 := h.th n 5 hn (by omega)
 have x6 := h.th n 6 hn (by omega)
 rw [(cellT_call _).1] at x1
 rw [(cellT_call _).2.1] at x2
 rw [(cellT_call _).2.2.1] at x3
 rw [(cellT_call _).2.2.2.1] at x4
 rw [(cellT_call _).2.2.2.2.1] at x5
 rw [(cellT_call _).2.2.2.2.2] at x6
 have HH := hide h
 have HZ := hide (show execS n s = endS n 2 38 zeroVS s by unfold execS; rw [if_pos h8])
 clear h h8
 go_enter Tryz.func31, Tryz.ntmps31
 go_wp2_with fail
 refine HI.mono ?_
 rintro e Y ⟨rfl, hY⟩
 have HE := refuse_any n hn 38 (HH.out.on hY) hlog
 clear x1 x2 x3 x4 x5 x6
 go_wp2_with fail
 refine HE.mono ?_
 rintro e w' hG
 obtain ⟨rfl, h1⟩ := hG
 go_wp2
 go_end0
 rw [HZ.out]
 exact Goes.from hY ⟨rfl, h1⟩
set_option maxHeartbeats 4000000 in
set_option maxRecDepth 20000 in
theorem exec_call {g gm : Nat} {P : PV} {s : WS} {lv : Value} {W : World} (n : Nat) (hn : n < 3) (hnr : (s.T n).call.nr ≤ 8) (har : ∀ i, (s.T n).args i < 18446744073709551616) (hbyt : ∀ x, s.mem.byte x < 256) (h : WX g gm P s lv W) (hlog : s.log.length ≤ 1000000) :
  Calls Tryz.prog 31 #[.pointer (some ⟨g, 0, none⟩), .int .i64 n] W (Goes g gm P (execS n s) lv W) := by
 have j1 : (0 : Int) ≤ n := by omega
 have j2 : (n : Int) < 3 := by omega
 have HI := isCall_any (s.T n).call W
 rw [decide_eq_true (show (s.T n).call.nr < 9 by omega)] at HI
 have HP := fun X => pts_some (s.T n).call hnr X
 unfold klV klC at HI HP
 have x1 := h.th n 1 hn (by omega)
 have x2 := h.th n 2 hn (by omega)
 have x3 := h.th n 3 hn (by omega)
 have x4 := h.th n 4 hn (by omega)
 have x5 := h.th n 5 hn (by omega)
 have x6 := h.th n 6 hn (by omega)
 rw [(cellT_call _).1] at x1
 rw [(cellT_call _).2.1] at x2
 rw [(cellT_call _).2.2.1] at x3
 rw [(cellT_call _).2.2.2.1] at x4
 rw [(cellT_call _).2.2.2.2.1] at x5
 rw [(cellT_call _).2.2.2.2.2] at x6
 have HSE := hide (show execS n s = execL n s (ptsOf (s.T n).call.nr) fun _ => zeroVL by unfold execS; rw [if_neg (by omega)])
 obtain ⟨nr, hnr'⟩ : ∃ x, x = (s.T n).call.nr := ⟨_, rfl⟩
 have HNR := hide hnr'
 rw [← hnr'] at HI HP HSE x2
 obtain ⟨ka, hka⟩ : ∃ k, k = kindsA nr := ⟨_, rfl⟩
 have hka4 : ka.size = 4 := by rw [hka]; rfl
 have hka1 : ka.all (·.oneCell') = true := by rw [hka]; exact kindsA_one _
 have HKA := hide hka
 simp only [← hka] at HP
 obtain ⟨pts, hpts⟩ : ∃ l, l = ptsOf nr := ⟨_, rfl⟩
 have HPT := hide hpts
 simp only [← hpts] at HP HSE
 obtain ⟨L, hL⟩ : ∃ m, m = pts.length := ⟨_, rfl⟩
 have HL := hide hL
 have hL2 : L ≤ 2 := by rw [hL, hpts]; exact pts_few _
 simp only [← hL] at HP
 have HH := hide h
 have HAR := hide har
 have HBY := hide hbyt
 obtain ⟨G, hG⟩ : ∃ G, G = Goes g gm P (execS n s) lv W := ⟨_, rfl⟩
 have HG : Hid (∀ lv' e w', e = .returned (.tuple #[]) → WX g gm P (execL n s pts fun _ => zeroVL) lv' w' → Fr g gm lv lv' W w' → G e w') := hide (fun lv' e w' h1 h2 h3 => by rw [hG]; exact ⟨h1, lv', by rw [HSE.out]; exact h2, h3⟩)
 rw [← hG]
 clear h hka hpts hL hnr hnr' hG HSE har hbyt
 go_enter Tryz.func31, Tryz.ntmps31
 go_wp2_with fail
 refine HI.mono ?_
 rintro e Y0 ⟨rfl, hY0⟩
 have HH0 := hide (HH.out.on hY0)
 have HB0 := hide hY0
 replace x1 := keep_cell hY0 x1
 replace x2 := keep_cell hY0 x2
 replace x3 := keep_cell hY0 x3
 replace x4 := keep_cell hY0 x4
 replace x5 := keep_cell hY0 x5
 replace x6 := keep_cell hY0 x6
 clear hY0 HI
 go_wp2_with fail
 refine (HP Y0).mono ?_
 rintro e Y ⟨⟨oa, cap, rfl, hcap, hcap2, hints⟩, hY⟩
 have HS := hide (SX.of ka #[.int .i64 0, .int .i64 0, .int .i64 0, .int .i64 0] HH.out (hints.weak HB0.out.size) (below_next HB0.out hY))
 obtain ⟨X, hX⟩ : ∃ X, X = (Y.alloc (.cells #[.int .i64 0, .int .i64 0, .int .i64 0, .int .i64 0] 126)).setRow Y.heap.size ka := ⟨_, rfl⟩
 rw [← hX] at HS
 have hob : 0 < L → ∀ b off, oa = some ⟨b, off, none⟩ → b < X.heap.size := fun h0 b off e => by
  obtain ⟨b', off', h1, h2, h3, h4⟩ := HS.out.ints.lie (by rw [← HL.out]; exact h0)
  rw [h1] at e
  simp only [Option.some.injEq, Addr.mk.injEq] at e
  omega
 have HOB : Hid (0 < pts.length → ∀ b off, oa = some ⟨b, off, none⟩ → b < X.heap.size) := hide (by rw [← HL.out]; exact hob)
 clear HP x1 x2 x3 x4 x5 x6 hints hob
 go_wp2_with (refine wpList_store_row rfl 126 _ _ rfl Y.heap.size ka rfl rfl 126 _ (heap_alloc_new Y _) (by rw [hka4]; exact size_kinds) (by rw [hka4]; rfl) hka1 ?_; rw [← hX]; clear hX)
 have HE0 := hide (EXX.start HS.out HOB.out _ cellV_zero.symm)
 obtain ⟨r6, hr6⟩ : ∃ r, r = Y.heap.size := ⟨_, rfl⟩
 obtain ⟨r7, hr7⟩ : ∃ r, r = X.heap.size := ⟨_, rfl⟩
 rw [← hr6, ← hr7] at HE0
 rw [← hr6, ← hr7]
 clear hr6 hr7 hY hka4 hka1 HS HOB HB0 HH0
 go_loopw [36] (fun I w' => ∃ (i : Nat) (v : Nat → VL), i ≤ L ∧ I = .int .i64 i ∧ Hid (EXX g gm P s lv oa pts ka r6 r7 v W w') ∧ Hid (execL n s pts (fun _ => zeroVL) = execL n s (pts.drop i) v)) (fun I _ => L - (intOf I).toNat)
 case atStart => exact ⟨0, _, by omega, rfl, HE0, hide (by rw [List.drop_zero])⟩
 case round =>
  obtain ⟨i, v, hi, rfl, HX, HE⟩ := hrel
  clear HE0
  by_cases hlt : i < L
  ·
   obtain ⟨at_, hat⟩ : ∃ a, pts[i]? = some a := ⟨_, List.getElem?_eq_getElem (by rw [← HL.out]; exact hlt)⟩
   have hmem := List.mem_of_getElem? hat
   obtain ⟨_, hat4, hkind⟩ := pts_of (show at_ ∈ ptsOf nr by rw [← HPT.out]; exact hmem)
   have hdrop : pts.drop i = at_ :: pts.drop (i + 1) := by
    rw [List.drop_eq_getElem_cons (by rw [← HL.out]; exact hlt)]
    congr 1
    rw [List.getElem?_eq_getElem (by rw [← HL.out]; exact hlt)] at hat
    exact Option.some.inj hat
   rw [hdrop] at HE
   obtain ⟨b, off, rfl, hbw, hbl, hel⟩ := HX.out.sx.ints.lie (by rw [← HL.out]; omega)
   have y0 := hel i at_ hat
   obtain ⟨k, hk⟩ : ∃ k, k = kindAt nr at_ := ⟨_, rfl⟩
   obtain ⟨ar, har⟩ : ∃ x, x = (s.T n).args at_ := ⟨_, rfl⟩
   have y1 : wr.cell? ⟨r6, at_, none⟩ = some (.int .i64 (k : Nat)) := by rw [cell_of_row _ _ _ _ _ _ HX.out.sx.box, HKA.out, hk]; exact kindsA_at _ _ hat4
   have y2 : wr.cell? ⟨g, 4 + n * 29 + 7 + at_, none⟩ = some (.int .u64 (ar : Nat)) := by rw [Nat.add_assoc (4 + n * 29), HX.out.sx.ward.th n (7 + at_) hn (by omega), cellT_arg _ _ hat4, har]
   have i1 : (0 : Int) ≤ i := by omega
   have i2 : (i : Int) < L := by omega
   have i3 : (0 : Int) ≤ at_ := by omega
   have i4 : (at_ : Int) < 4 := by omega
   rw [← hk] at hkind
   have hal : ar < 18446744073709551616 := by rw [har]; exact HAR.out at_
   have HFV := fun X (hX : WX g gm P s lv X) => follow_any k ar hkind hal HBY.out hX
   have HFF := hide (show execL n s pts (fun _ => zeroVL) = if (followV s.mem k ar).2 = 0 then execL n s (pts.drop (i + 1)) (updF v at_ (followV s.mem k ar).1) else endS n 2 (errnoN (followV s.mem k ar).2 : Nat) zeroVS s by
    rw [HE.out]
    conv => lhs; rw [execL]
    rw [← HNR.out, ← hk, ← har, followF_V _ _ _ hkind]
    by_cases h0 : (followV s.mem k ar).2 = 0
    ·
     rw [if_pos h0, if_pos h0]
    ·
     rw [if_neg h0, if_neg h0])
   obtain ⟨⟨⟨path, ip, port⟩, f⟩, hvr⟩ : ∃ v, v = followV s.mem k ar := ⟨_, rfl⟩
   simp only [← hvr] at HFV HFF
   unfold vlC at HFV
   simp only at HFV
   obtain ⟨er, her⟩ : ∃ e, e = errV f := ⟨_, rfl⟩
   simp only [← her] at HFV
   have HER := hide her
   have HF1 := HFV wr.drew (HX.out.sx.ward.on (Below.refl _ _).drew)
   have HF2 := HFV (wr.alloc (.cells #[.string ⟨#[]⟩, .int .u32 0, .int .i64 0] 66)).drew ((HX.out.sx.ward.on (box_below wr _)).on (Below.refl _ _).drew)
   have hgZ : g ≠ wr.heap.size := Nat.ne_of_lt HX.out.sx.ward.glt
   have hrZ : r6 ≠ wr.heap.size := Nat.ne_of_lt (Array.getElem?_eq_some_iff.1 HX.out.sx.box).1
   have zb : (wr.alloc (.cells #[.string ⟨#[]⟩, .int .u32 0, .int .i64 0] 66)).drew.heap[wr.heap.size]? = some (.cells #[.string ⟨#[]⟩, .int .u32 0, .int .i64 0] 66 (0, 0)) := heap_alloc_new wr _
   have x1 := keep_cell (box_below wr (.cells #[.string ⟨#[]⟩, .int .u32 0, .int .i64 0] 66)) y1
   have x2 := keep_cell (box_below wr (.cells #[.string ⟨#[]⟩, .int .u32 0, .int .i64 0] 66)) y2
   replace y1 : wr.drew.cell? _ = _ := y1
   replace y2 : wr.drew.cell? _ = _ := y2
   replace x1 : (wr.alloc (.cells #[.string ⟨#[]⟩, .int .u32 0, .int .i64 0] 66)).drew.cell? _ = _ := x1
   replace x2 : (wr.alloc (.cells #[.string ⟨#[]⟩, .int .u32 0, .int .i64 0] 66)).drew.cell? _ = _ := x2
   clear hel hat hmem hdrop hk har hvr her HFV hal hkind
   go_wp2_with fail
   go_cut [10, 11] from 37 to 63 (fun S E w2 => E = er ∧ ∃ r10 : Nat, S = .pointer (some ⟨r10, 0, none⟩) ∧ Hid (Below wr.heap.size wr w2) ∧ Hid (w2.heap[r10]? = some (.cells #[.string path, .int .u32 ip, .int .i64 port] 66 (0, 0))))
   case first => as_aux_lemma =>
    go_region_held3 (fun w' => w'.cell? ⟨r6, at_, none⟩ = some (.int .i64 (k : Nat)) ∧ w'.cell? ⟨g, 4 + n * 29 + 7 + at_, none⟩ = some (.int .u64 (ar : Nat)))
     (first | (with_reducible exact ⟨y1, y2⟩) | (with_reducible exact ⟨x1, x2⟩) | (with_reducible exact ⟨r1, r2⟩) | (with_reducible exact ⟨keep_cell (box_below wr.drew _) y1, keep_cell (box_below wr.drew _) y2⟩) | (with_reducible exact ⟨keep_cell (box_below Y2 _) r1, keep_cell (box_below Y2 _) r2⟩) | (with_reducible exact ⟨keepv hrZ r1, keepv hgZ r2⟩) | go_keep)
     ((first
      | (go_at_call 61; with_reducible refine HF1.mono ?_; rintro e Y2 ⟨rfl, hY2⟩; have HB := hide (below_next (Below.refl _ wr).drew hY2); have r1 := keep_cell hY2 y1; have r2 := keep_cell hY2 y2; clear hY2)
      | (go_at_call 61; refine HF2.mono ?_; rintro e Y2 ⟨rfl, hY2⟩; have HB := hide (below_next (box_below wr (.cells #[.string ⟨#[]⟩, .int .u32 0, .int .i64 0] 66)).drew hY2); have r1 := keep_cell hY2 x1; have r2 := keep_cell hY2 x2; have uh := (hY2.block wr.heap.size (by show _ < (wr.alloc _).heap.size; rw [World.size_alloc]; exact Nat.lt_succ_self _)).trans zb; obtain ⟨⟨p0, p1, p2⟩, g0, g1, g2⟩ := lrow_cells uh; clear hY2)))
    all_goals
     go_wp2_with fail
     go_meet
     case rel => first
      | with_reducible exact ⟨rfl, Y2.heap.size, rfl, hide (below_next HB.out (box_below _ _)), hide (heap_alloc_new _ _)⟩
      | exact ⟨rfl, wr.heap.size, rfl, hide (by rw [lset3 uh]; exact below_setRow HB.out (Nat.le_refl _) _), hide (by rw [lset3 uh]; exact setRow_heap _ _ _ _ _ _ uh)⟩
   case rest =>
    obtain ⟨rfl, r10, rfl, HB2, HR2⟩ := hcut
    clear y0 y1 y2 x1 x2 zb HF1 HF2
    have HX2 := hide (HX.out.on HB2.out)
    by_cases hf0 : f = 0
    ·
     rw [if_pos hf0] at HFF
     have hu := HER.out
     rw [hf0, errV_zero] at hu
     subst hu
     have r0 : wc.cell? ⟨r10, 0, none⟩ = some (.string path) := cell_of_row _ _ 0 _ _ _ HR2.out
     have r1 : wc.cell? ⟨r10, 1, none⟩ = some (.int .u32 ip) := cell_of_row _ _ 1 _ _ _ HR2.out
     have r2 : wc.cell? ⟨r10, 2, none⟩ = some (.int .i64 port) := cell_of_row _ _ 2 _ _ _ HR2.out
     have HX3 := hide (HX2.out.set HH.out at_ hat4 ⟨path, ip, port⟩)
     unfold vlC at HX3
     simp only at HX3
     clear hf0
     go_wp2_with (refine wpList_store_mid (P := Tryz.prog) rfl 66 _ _ rfl r7 (at_ * 3) #[.string path, .int .u32 ip, .int .i64 port] (by go_simp) rfl (by intro j hj; exact ⟨by rw [cell_of_row _ _ _ _ _ _ HX2.out.vals, VA_get _ _ _ (by have h3 : j < 3 := hj; omega)]; rfl, frozen_of_row _ _ _ _ _ HX2.out.vals⟩) size_vl (by simp [Value.oneCell']) ?_)
     go_round
     case rel => exact ⟨i + 1, _, by omega, by go_num, HX3, HFF⟩
     case measure => simp [intOf]; omega
    ·
     rw [if_neg hf0] at HFF
     have hu := HER.out
     rw [errV_pos hf0] at hu
     subst hu
     have HEF := fail_any n hn f HX2.out.sx.ward hlog
     clear hf0
     go_wp2_with fail
     refine HEF.mono ?_
     rintro e w' hGo
     obtain ⟨rfl, lv', h1, h2⟩ := hGo
     go_wp2
     go_end0
     exact HG.out lv' _ _ rfl (by rw [HFF.out]; exact h1) ((Fr.of lv HX2.out.sx.fr).trans h2)
  ·
   have hnl : ¬ ((i : Int) < (L : Int)) := by omega
   have HZ := hide (show execL n s pts (fun _ => zeroVL) = endS n 1 0 (vsOf v) s by
    rw [HE.out, List.drop_eq_nil_of_le (by rw [← HL.out]; omega)]
    rfl)
   have HEN := wend_any n hn 1 0 (vsOf v) HX.out.sx.ward hlog
   have hv := fun j (hj : j < 12) => (cell_of_row _ _ j _ _ _ HX.out.vals).trans (VA_get _ _ _ hj)
   have v0 : wr.cell? ⟨r7, 0, none⟩ = some (.string (v 0).path) := hv 0 (by omega)
   have v1 : wr.cell? ⟨r7, 1, none⟩ = some (.int .u32 (v 0).ip) := hv 1 (by omega)
   have v2 : wr.cell? ⟨r7, 2, none⟩ = some (.int .i64 (v 0).port) := hv 2 (by omega)
   have v3 : wr.cell? ⟨r7, 3, none⟩ = some (.string (v 1).path) := hv 3 (by omega)
   have v4 : wr.cell? ⟨r7, 4, none⟩ = some (.int .u32 (v 1).ip) := hv 4 (by omega)
   have v5 : wr.cell? ⟨r7, 5, none⟩ = some (.int .i64 (v 1).port) := hv 5 (by omega)
   have v6 : wr.cell? ⟨r7, 6, none⟩ = some (.string (v 2).path) := hv 6 (by omega)
   have v7 : wr.cell? ⟨r7, 7, none⟩ = some (.int .u32 (v 2).ip) := hv 7 (by omega)
   have v8 : wr.cell? ⟨r7, 8, none⟩ = some (.int .i64 (v 2).port) := hv 8 (by omega)
   have v9 : wr.cell? ⟨r7, 9, none⟩ = some (.string (v 3).path) := hv 9 (by omega)
   have v10 : wr.cell? ⟨r7, 10, none⟩ = some (.int .u32 (v 3).ip) := hv 10 (by omega)
   have v11 : wr.cell? ⟨r7, 11, none⟩ = some (.int .i64 (v 3).port) := hv 11 (by omega)
   unfold vsOf at HEN
   rw [entA_done] at HEN
   clear hlt hv
   go_wp2_with fail
   refine HEN.mono ?_
   rintro e w' ⟨rfl, lv', h1, h2⟩
   go_wp2
   go_end0
   exact HG.out lv' _ _ rfl (by rw [HZ.out]; exact h1) ((Fr.of lv HX.out.sx.fr).trans h2)
theorem exec_any {g gm : Nat} {P : PV} {s : WS} {lv : Value} {W : World} (n : Nat) (hn : n < 3) (hi : Inv P.p s) (_hph : (s.T n).phase = 5) (h : WX g gm P s lv W) (hlog : s.log.length ≤ 1000000) :
  Calls Tryz.prog 31 #[.pointer (some ⟨g, 0, none⟩), .int .i64 n] W (Goes g gm P (execS n s) lv W) := by
 by_cases h8 : 8 < (s.T n).call.nr
 ·
  exact exec_nocall n hn h8 h hlog
 ·
  exact exec_call n hn (by omega) (hi.thr n hn).ar hi.mem.fine.bytes h hlog
end Go.Proofs.YtklibmijiecbfaaGreat
