/- The document's done. -/
import Derived.Test.YtklibmijiecbfaaGreatK17
namespace Go.Proofs.YtklibmijiecbfaaGreat
open Go.RowKit Mm

theorem dend2 {g : Nat} {P : PV} {d : DWS} {sv : Nat → Value} {lv : Value} {W : World} (n : Nat) (hn : n < 3) (errno : Int) (h : DX g P d sv lv W) (hlog : d.log.length ≤ 1000000) (hs64 : SealOk (d.T n)) :
  Calls Tryz.prog 94 #[.pointer (some ⟨g, 0, none⟩), .int .i64 n, .int .i64 2, .int .i64 errno, .agg #[.string ⟨#[]⟩, .int .u32 0, .int .i64 0, .string ⟨#[]⟩, .int .u32 0, .int .i64 0, .string ⟨#[]⟩, .int .u32 0, .int .i64 0, .string ⟨#[]⟩, .int .u32 0, .int .i64 0]] W (DGoes g P (dend n 2 errno zeroVS d) sv lv W) :=
 dend_any n hn 2 errno zeroVS h hlog hs64
theorem dend3 {g : Nat} {P : PV} {d : DWS} {sv : Nat → Value} {lv : Value} {W : World} (n : Nat) (hn : n < 3) (h : DX g P d sv lv W) (hlog : d.log.length ≤ 1000000) (hs64 : SealOk (d.T n)) :
  Calls Tryz.prog 94 #[.pointer (some ⟨g, 0, none⟩), .int .i64 n, .int .i64 3, .int .i64 0, .agg #[.string ⟨#[]⟩, .int .u32 0, .int .i64 0, .string ⟨#[]⟩, .int .u32 0, .int .i64 0, .string ⟨#[]⟩, .int .u32 0, .int .i64 0, .string ⟨#[]⟩, .int .u32 0, .int .i64 0]] W (DGoes g P (dend n 3 0 zeroVS d) sv lv W) :=
 dend_any n hn 3 0 zeroVS h hlog hs64
theorem ddone_any {g : Nat} {P : PV} {d : DWS} {sv : Nat → Value} {lv : Value} {W : World} (n : Nat) (hn : n < 3) (a : ACT) (ha : actF a = 0) (next : Nat) (h : DX g P d sv lv W) (hlog : d.log.length ≤ 1000000) (hs64 : SealOk (d.T n)) :
  Calls Tryz.prog 67 #[.pointer (some ⟨g, 0, none⟩), .int .i64 n, actV a, .int .i64 next] W (DGoes g P (ddone n a next d) sv lv W) := by
 have j1 : (0 : Int) ≤ n := by omega
 have j2 : (n : Int) < 3 := by omega
 unfold actV
 obtain ⟨V, hV, hVb, hVs, hVc⟩ := one_box W #[.int .i64 a.kind, .int .i64 a.errno] 24
 have c0 := hVc 0
 have c1 := hVc 1
 simp only [List.getElem?_toArray, List.getElem?_cons_zero, List.getElem?_cons_succ] at c0 c1
 have hg := h.glt
 have HX := hide (h.on hVb)
 have HFV := hide (DFr.of (g := g) sv lv hVb)
 clear hVc hVs
 rcases act_cases ha with rfl | rfl | ⟨k, hk1, hk2, rfl⟩
 ·
  have HS := hide ((h.setPhase n next hn).on (box_below _ (.cells #[.int .i64 1, .int .i64 0] 24)))
  have cp := HX.out.phase n hn
  have fp := HX.out.fro (783 + n * 31)
  have HD := hide (show ddone n ⟨1, 0⟩ next d = d.put n { d.T n with phase := next } from rfl)
  simp only at hV c0 c1 ⊢
  rw [HD.out]
  subst hV
  clear h
  go_enter Tryz.func67, Tryz.ntmps67
  go_wp2
  go_end0
  exact ⟨rfl, sv, lv, HS.out, (DFr.set sv lv _ _ _).trans (DFr.of sv lv (box_below _ _))⟩
 ·
  have HE := dend3 n hn HX.out hlog hs64
  have HD := hide (show ddone n ⟨3, 0⟩ next d = dend n 3 0 zeroVS d from rfl)
  simp only at hV c0 c1 ⊢
  rw [HD.out]
  clear h hs64
  go_enter Tryz.func67, Tryz.ntmps67
  go_wp2_with fail
  rw [← hV]
  refine HE.mono ?_
  rintro e w' ⟨rfl, h1⟩
  go_wp2
  go_end0
  exact DGoes.from HFV.out ⟨rfl, h1⟩
 ·
  have HE := dend2 n hn k HX.out hlog hs64
  have HD := hide (show ddone n ⟨2, (k : Int)⟩ next d = dend n 2 k zeroVS d from rfl)
  simp only at hV c0 c1 ⊢
  rw [HD.out]
  clear h hs64
  go_enter Tryz.func67, Tryz.ntmps67
  go_wp2_with fail
  rw [← hV]
  refine HE.mono ?_
  rintro e w' ⟨rfl, h1⟩
  go_wp2
  go_end0
  exact DGoes.from HFV.out ⟨rfl, h1⟩
end Go.Proofs.YtklibmijiecbfaaGreat
