/- The library's contracts that this seat's walks lean on, laid at its program. -/
import Derived.Shelf.Strings.Trim
import Derived.Shelf.Small.Utf8
import Derived.Shelf.Small.Strs
import Derived.Shelf.LaysM
import Derived.Shelf.Strconv.Itoa3
import Derived.Shelf.Strconv.Clone
import Derived.Ground.MpProg
import Derived.Shelf.Pu.ParseUintPublic10
import Derived.Shelf.Pu.ErrVarParseUint
import Derived.Shelf.Strings.Search2
import Derived.Shelf.Strings.Search3
import Derived.Shelf.Strings.Count
import Derived.Shelf.Strings.Shaped
import Derived.Shelf.Strings.Prefix
import Derived.Shelf.Strings.Split
import Derived.Shelf.Strings.SplitShaped
import Derived.Shelf.Strings.Runes
import Derived.Shelf.Strings.AsciiSet
import Derived.Shelf.Unicode.DecodeSlow
import Derived.Test.YtkogafponpjdnaaGreatDoorProg
import Derived.Test.YtkogafponpjdnaaGreatDoorRows
import Derived.WalkKit
import Derived.WalkSpells
import Derived.WalkLawsBesides
import Derived.Deep.QuietTactic
import Derived.BigQuiet
import Derived.Handy
import Derived.Great.BuildSlice
import Derived.Deep.WholeRow
import Derived.Lib.ItoaNum
import Derived.Lib.Bytealg
import Derived.Lib.IndexLaws
import Derived.Lib.AppendIntMem
import Derived.Lib.SmallJoins
import Derived.Laws.Strings3
import Derived.Lib.Slices
import Derived.Laws.BitsAllLaws
import Derived.Lib.Strings
import Derived.Lib.Walk
namespace Go.Proofs
open Go.Shelf
def Tryz.lays160_ren : Go.Shelf.Ren := ⟨fun | 160 => 93 | 232 => 112 | 231 => 111 | 227 => 113 | 234 => 115 | 233 => 114 | 236 => 117 | 235 => 116 | 228 => 139 | 271 => 141 | 151 => 140 | 197 => 105 | 120 => 154 | 152 => 153 | 260 => 128 | 137 => 127 | 119 => 158 | 224 => 131 | 225 => 130 | 217 => 129 | 266 => 150 | n => n, fun | 9 => 9 | 4 => 4 | 3 => 3 | 5 => 5 | 117 => 171 | 116 => 170 | 0 => 0 | 124 => 174 | 21 => 21 | 105 => 165 | 46 => 177 | 119 => 200 | 139 => 203 | 138 => 202 | n => n, fun | 3 => 3 | 4 => 4 | n => n⟩
theorem Tryz.lays160 : Go.Proofs.Lays.n160 Tryz.prog Tryz.lays160_ren := {
  mixed := by kernel_rfl
  f119 := Tryz.func158.trans (congrArg some (by kernel_rfl))
  f120 := Tryz.func154.trans (congrArg some (by kernel_rfl))
  f137 := Tryz.func127.trans (congrArg some (by kernel_rfl))
  f151 := Tryz.func140.trans (congrArg some (by kernel_rfl))
  f152 := Tryz.func153.trans (congrArg some (by kernel_rfl))
  f160 := Tryz.func93.trans (congrArg some (by kernel_rfl))
  f197 := Tryz.func105.trans (congrArg some (by kernel_rfl))
  f217 := Tryz.func129.trans (congrArg some (by kernel_rfl))
  f224 := Tryz.func131.trans (congrArg some (by kernel_rfl))
  f225 := Tryz.func130.trans (congrArg some (by kernel_rfl))
  f227 := Tryz.func113.trans (congrArg some (by kernel_rfl))
  f228 := Tryz.func139.trans (congrArg some (by kernel_rfl))
  f231 := Tryz.func111.trans (congrArg some (by kernel_rfl))
  f232 := Tryz.func112.trans (congrArg some (by kernel_rfl))
  f233 := Tryz.func114.trans (congrArg some (by kernel_rfl))
  f234 := Tryz.func115.trans (congrArg some (by kernel_rfl))
  f235 := Tryz.func116.trans (congrArg some (by kernel_rfl))
  f236 := Tryz.func117.trans (congrArg some (by kernel_rfl))
  f260 := Tryz.func128.trans (congrArg some (by kernel_rfl))
  f266 := Tryz.func150.trans (congrArg some (by kernel_rfl))
  f271 := Tryz.func141.trans (congrArg some (by kernel_rfl))
  t0 := Tryz.underlying0
  a0 := Tryz.isAgg0
  z0 := Tryz.sizeOf0
  v0 := Tryz.zeroValue0
  t3 := Tryz.underlying3
  a3 := Tryz.isAgg3
  z3 := Tryz.sizeOf3
  v3 := Tryz.zeroValue3
  t4 := Tryz.underlying4
  a4 := Tryz.isAgg4
  z4 := Tryz.sizeOf4
  v4 := Tryz.zeroValue4
  t5 := Tryz.underlying5
  a5 := Tryz.isAgg5
  z5 := Tryz.sizeOf5
  v5 := Tryz.zeroValue5
  t9 := Tryz.underlying9
  a9 := Tryz.isAgg9
  z9 := Tryz.sizeOf9
  v9 := Tryz.zeroValue9
  t21 := Tryz.underlying21
  a21 := Tryz.isAgg21
  z21 := Tryz.sizeOf21
  v21 := Tryz.zeroValue21
  t46 := Tryz.underlying177
  a46 := Tryz.isAgg177
  z46 := Tryz.sizeOf177
  v46 := Tryz.zeroValue177
  t105 := Tryz.underlying165
  a105 := Tryz.isAgg165
  z105 := Tryz.sizeOf165
  v105 := Tryz.zeroValue165
  t116 := Tryz.underlying170
  a116 := Tryz.isAgg170
  z116 := Tryz.sizeOf170
  t117 := Tryz.underlying171
  a117 := Tryz.isAgg171
  z117 := Tryz.sizeOf171
  v117 := Tryz.zeroValue171
  t119 := Tryz.underlying200
  a119 := Tryz.isAgg200
  z119 := Tryz.sizeOf200
  t124 := Tryz.underlying174
  a124 := Tryz.isAgg174
  z124 := Tryz.sizeOf174
  v124 := Tryz.zeroValue174
  t138 := Tryz.underlying202
  a138 := Tryz.isAgg202
  z138 := Tryz.sizeOf202
  v138 := Tryz.zeroValue202
  t139 := Tryz.underlying203
  a139 := Tryz.isAgg203
  z139 := Tryz.sizeOf203
  v139 := Tryz.zeroValue203
  g3 := by kernel_rfl
  g4 := by kernel_rfl }
open Go.RowKit in
/-- strings.Trim: "Trim returns a slice of the string s with all leading and trailing Unicode code points contained in cutset removed.": AT A cutset OF ONE ASCII BYTE. THE WORLD BEHIND IT: as it was, or (where s is not empty) with ONE DRAW MORE off the tape: the statement 'return trimLeftByte(trimRightByte(s, c), c)' draws its order of evaluation. (LAID: no walk: one application.) -/
theorem Tryz.strings_Trim_one (s : ByteArray) (c : UInt8) (hc : c.toNat < 128) (w : World) (hs : s.size ≤ 9223372036854775807) :
    Calls Tryz.prog 93 #[.string s, .string ⟨#[c]⟩] w fun e w' => e = .returned (.string ⟨(Lib.trimB s.data.toList c).toArray⟩) ∧ (w' = w ∨ w' = w.drew) := Any.strings_Trim_one Tryz.lays160 s c hc w hs
def Tryz.lays283_ren : Go.Shelf.Ren := ⟨fun | 283 => 119 | n => n, fun | 3 => 3 | 9 => 9 | 4 => 4 | n => n, fun | n => n⟩
theorem Tryz.lays283 : Go.Proofs.Lays.n283 Tryz.prog Tryz.lays283_ren := {
  mixed := by kernel_rfl
  f283 := Tryz.func119.trans (congrArg some (by kernel_rfl))
  t3 := Tryz.underlying3
  a3 := Tryz.isAgg3
  z3 := Tryz.sizeOf3
  v3 := Tryz.zeroValue3
  t4 := Tryz.underlying4
  a4 := Tryz.isAgg4
  z4 := Tryz.sizeOf4
  v4 := Tryz.zeroValue4
  t9 := Tryz.underlying9
  a9 := Tryz.isAgg9
  z9 := Tryz.sizeOf9
  v9 := Tryz.zeroValue9 }
open Go.Lib in
/-- internal/strconv.small: "small returns the string for an i with 0 <= i < nSmalls.": i's decimal numeral. The world is as it was. (LAID: no walk: one application.) -/
theorem Tryz.internal_strconv_small (i : Nat) (h : i < 100) (w : World) :
    Calls Tryz.prog 119 #[.int .i64 i] w fun e w' => e = .returned (.string ⟨(Lib.decDigits i).toArray⟩) ∧ w' = w := Any.internal_strconv_small Tryz.lays283 i h w
def Tryz.laysM284_ren : Go.Shelf.Ren := ⟨fun | 284 => 120 | 129 => 145 | 317 => 144 | 318 => 146 | n => n, fun | 53 => 28 | 3 => 3 | 212 => 196 | 0 => 0 | 4 => 4 | 46 => 177 | 5 => 5 | 9 => 9 | n => n, fun | 17 => 2 | n => n⟩
theorem Tryz.laysM284 : Go.Proofs.LaysM.n284 Tryz.prog Tryz.laysM284_ren := {
  mixed := by kernel_rfl
  f129 := Tryz.func145.trans (congrArg some (by kernel_rfl))
  f284 := Tryz.func120.trans (congrArg some (by kernel_rfl))
  f317 := Tryz.func144.trans (congrArg some (by kernel_rfl))
  f318 := Tryz.func146.trans (congrArg some (by kernel_rfl))
  t0 := Tryz.underlying0
  a0 := Tryz.isAgg0
  z0 := Tryz.sizeOf0
  v0 := Tryz.zeroValue0
  t3 := Tryz.underlying3
  a3 := Tryz.isAgg3
  z3 := Tryz.sizeOf3
  v3 := Tryz.zeroValue3
  t4 := Tryz.underlying4
  a4 := Tryz.isAgg4
  z4 := Tryz.sizeOf4
  v4 := Tryz.zeroValue4
  t5 := Tryz.underlying5
  a5 := Tryz.isAgg5
  z5 := Tryz.sizeOf5
  v5 := Tryz.zeroValue5
  t9 := Tryz.underlying9
  a9 := Tryz.isAgg9
  z9 := Tryz.sizeOf9
  v9 := Tryz.zeroValue9
  t46 := Tryz.underlying177
  a46 := Tryz.isAgg177
  z46 := Tryz.sizeOf177
  v46 := Tryz.zeroValue177
  t53 := Tryz.underlying28
  a53 := Tryz.isAgg28
  z53 := Tryz.sizeOf28
  v53 := Tryz.zeroValue28
  t212 := Tryz.underlying196
  a212 := Tryz.isAgg196
  z212 := Tryz.sizeOf196
  v212 := Tryz.zeroValue196
  g17 := by kernel_rfl
  i0 := by kernel_rfl
  i3 := by kernel_rfl
  i4 := by kernel_rfl
  i5 := by kernel_rfl
  i9 := by kernel_rfl
  i46 := by kernel_rfl
  i53 := by kernel_rfl
  i212 := by kernel_rfl
  m17 := by kernel_rfl }
open Go.Lib in
/-- internal/strconv.numDigits, at a d that is not 0: THE NUMBER OF d's DECIMAL DIGITS. The world is as it was. (LAID: no walk: one application.) -/
theorem Tryz.internal_strconv_numDigits (u : Nat) (h1 : 1 ≤ u) (h2 : u < 18446744073709551616) (w : World) (htab : Lib.TabIs Tryz.prog w "internal/strconv.uint64pow10" .u64 Lib.pow10Tab) :
    Calls Tryz.prog 120 #[.int .u64 u] w fun e w' => e = .returned (.int .i64 (Lib.nDigits u)) ∧ w' = w := Any.internal_strconv_numDigits Tryz.laysM284 u h1 h2 w htab
def Tryz.lays285_ren : Go.Shelf.Ren := ⟨fun | 285 => 121 | n => n, fun | 37 => 80 | 53 => 28 | 3 => 3 | 4 => 4 | 51 => 27 | 9 => 9 | 5 => 5 | 0 => 0 | n => n, fun | n => n⟩
theorem Tryz.lays285 : Go.Proofs.Lays.n285 Tryz.prog Tryz.lays285_ren := {
  mixed := by kernel_rfl
  f285 := Tryz.func121.trans (congrArg some (by kernel_rfl))
  t0 := Tryz.underlying0
  a0 := Tryz.isAgg0
  z0 := Tryz.sizeOf0
  v0 := Tryz.zeroValue0
  t3 := Tryz.underlying3
  a3 := Tryz.isAgg3
  z3 := Tryz.sizeOf3
  v3 := Tryz.zeroValue3
  t4 := Tryz.underlying4
  a4 := Tryz.isAgg4
  z4 := Tryz.sizeOf4
  v4 := Tryz.zeroValue4
  t5 := Tryz.underlying5
  a5 := Tryz.isAgg5
  z5 := Tryz.sizeOf5
  v5 := Tryz.zeroValue5
  t9 := Tryz.underlying9
  a9 := Tryz.isAgg9
  z9 := Tryz.sizeOf9
  v9 := Tryz.zeroValue9
  t37 := Tryz.underlying80
  a37 := Tryz.isAgg80
  z37 := Tryz.sizeOf80
  v37 := Tryz.zeroValue80
  t51 := Tryz.underlying27
  a51 := Tryz.isAgg27
  z51 := Tryz.sizeOf27
  v51 := Tryz.zeroValue27
  t53 := Tryz.underlying28
  a53 := Tryz.isAgg28
  z53 := Tryz.sizeOf28
  v53 := Tryz.zeroValue28 }
open Go.RowKit Go.Sort Go.Lib in
/-- internal/strconv.formatBase10: "formatBase10 formats the decimal representation of u into a. The caller is responsible for ensuring that a is big enough to hold u. If a is too big, leading zeros will be filled in as needed.": THE ROW HOLDS u's DIGITS ('FmtInv .. 0 ..': every place t holds 'dg u (len - 1 - t)'); all else is as it was but for the count of draws. (LAID: no walk: one application.) -/
theorem Tryz.internal_strconv_formatBase10 (blk off cap : Nat) (u : Nat) (d : Array UInt8) (w : World) (hH : Holds (fun (b : UInt8) => Value.int .u8 (b.toNat : Int)) w blk off d) (hu : u < 10 ^ d.size) (hu64 : u < 18446744073709551616) (hsz : d.size < 4611686018427387904) :
    Calls Tryz.prog 121 #[.slice (some ⟨blk, off, none⟩) d.size cap, .int .u64 u] w fun e w' =>
      e = .returned (.tuple #[]) ∧ ∃ (n v' : Nat) (dk : Array UInt8), w' = (putRow (fun (b : UInt8) => Value.int .u8 (b.toNat : Int)) w blk off dk).drewN n ∧ FmtInv d.size u 0 v' dk := Any.internal_strconv_formatBase10 Tryz.lays285 blk off cap u d w hH hu hu64 hsz
def Tryz.laysM171_ren : Go.Shelf.Ren := ⟨fun | 171 => 63 | 243 => 81 | 246 => 95 | 283 => 119 | 284 => 120 | 285 => 121 | 286 => 122 | 129 => 145 | 317 => 144 | 318 => 146 | 319 => 147 | 320 => 148 | 337 => 156 | 338 => 157 | n => n, fun | 3 => 3 | 9 => 9 | 2 => 2 | 4 => 4 | 171 => 178 | 0 => 0 | 53 => 28 | 37 => 80 | 5 => 5 | 173 => 181 | 212 => 196 | 51 => 27 | 20 => 20 | 213 => 197 | 46 => 177 | 232 => 214 | 233 => 215 | n => n, fun | 17 => 2 | 18 => 7 | 19 => 8 | n => n⟩
theorem Tryz.laysM171 : Go.Proofs.LaysM.n171 Tryz.prog Tryz.laysM171_ren := {
  mixed := by kernel_rfl
  f129 := Tryz.func145.trans (congrArg some (by kernel_rfl))
  f171 := Tryz.func63.trans (congrArg some (by kernel_rfl))
  f243 := Tryz.func81.trans (congrArg some (by kernel_rfl))
  f246 := Tryz.func95.trans (congrArg some (by kernel_rfl))
  f283 := Tryz.func119.trans (congrArg some (by kernel_rfl))
  f284 := Tryz.func120.trans (congrArg some (by kernel_rfl))
  f285 := Tryz.func121.trans (congrArg some (by kernel_rfl))
  f286 := Tryz.func122.trans (congrArg some (by kernel_rfl))
  f317 := Tryz.func144.trans (congrArg some (by kernel_rfl))
  f318 := Tryz.func146.trans (congrArg some (by kernel_rfl))
  f319 := Tryz.func147.trans (congrArg some (by kernel_rfl))
  f320 := Tryz.func148.trans (congrArg some (by kernel_rfl))
  f337 := Tryz.func156.trans (congrArg some (by kernel_rfl))
  f338 := Tryz.func157.trans (congrArg some (by kernel_rfl))
  t0 := Tryz.underlying0
  a0 := Tryz.isAgg0
  z0 := Tryz.sizeOf0
  v0 := Tryz.zeroValue0
  t2 := Tryz.underlying2
  a2 := Tryz.isAgg2
  z2 := Tryz.sizeOf2
  v2 := Tryz.zeroValue2
  t3 := Tryz.underlying3
  a3 := Tryz.isAgg3
  z3 := Tryz.sizeOf3
  v3 := Tryz.zeroValue3
  t4 := Tryz.underlying4
  a4 := Tryz.isAgg4
  z4 := Tryz.sizeOf4
  v4 := Tryz.zeroValue4
  t5 := Tryz.underlying5
  a5 := Tryz.isAgg5
  z5 := Tryz.sizeOf5
  v5 := Tryz.zeroValue5
  t9 := Tryz.underlying9
  a9 := Tryz.isAgg9
  z9 := Tryz.sizeOf9
  v9 := Tryz.zeroValue9
  t20 := Tryz.underlying20
  a20 := Tryz.isAgg20
  z20 := Tryz.sizeOf20
  v20 := Tryz.zeroValue20
  t37 := Tryz.underlying80
  a37 := Tryz.isAgg80
  z37 := Tryz.sizeOf80
  v37 := Tryz.zeroValue80
  t46 := Tryz.underlying177
  a46 := Tryz.isAgg177
  z46 := Tryz.sizeOf177
  v46 := Tryz.zeroValue177
  t51 := Tryz.underlying27
  a51 := Tryz.isAgg27
  z51 := Tryz.sizeOf27
  v51 := Tryz.zeroValue27
  t53 := Tryz.underlying28
  a53 := Tryz.isAgg28
  z53 := Tryz.sizeOf28
  v53 := Tryz.zeroValue28
  t171 := Tryz.underlying178
  a171 := Tryz.isAgg178
  z171 := Tryz.sizeOf178
  v171 := Tryz.zeroValue178
  t173 := Tryz.underlying181
  a173 := Tryz.isAgg181
  z173 := Tryz.sizeOf181
  v173 := Tryz.zeroValue181
  t212 := Tryz.underlying196
  a212 := Tryz.isAgg196
  z212 := Tryz.sizeOf196
  v212 := Tryz.zeroValue196
  t213 := Tryz.underlying197
  a213 := Tryz.isAgg197
  z213 := Tryz.sizeOf197
  t232 := Tryz.underlying214
  a232 := Tryz.isAgg214
  z232 := Tryz.sizeOf214
  v232 := Tryz.zeroValue214
  t233 := Tryz.underlying215
  a233 := Tryz.isAgg215
  z233 := Tryz.sizeOf215
  v233 := Tryz.zeroValue215
  g17 := by kernel_rfl
  g18 := by kernel_rfl
  g19 := by kernel_rfl
  i0 := by kernel_rfl
  i2 := by kernel_rfl
  i3 := by kernel_rfl
  i4 := by kernel_rfl
  i5 := by kernel_rfl
  i9 := by kernel_rfl
  i20 := by kernel_rfl
  i37 := by kernel_rfl
  i46 := by kernel_rfl
  i51 := by kernel_rfl
  i53 := by kernel_rfl
  i171 := by kernel_rfl
  i173 := by kernel_rfl
  i212 := by kernel_rfl
  i232 := by kernel_rfl
  i233 := by kernel_rfl
  m17 := by kernel_rfl
  m18 := by kernel_rfl
  m19 := by kernel_rfl }
open Go.RowKit Go.Sort Go.Lib in
/-- strconv.Itoa: "Itoa is equivalent to FormatInt(int64(i), 10).": i's DECIMAL NUMERAL ('Lib.itoa': a '-' where i is negative, then the digits), FOR EVERY int. The world behind the call: the world before it, new blocks behind the heap (the library's 'var a [24]byte'), draws. (LAID: no walk: one application.) -/
theorem Tryz.strconv_Itoa (n : Int) (h0 : -9223372036854775808 ≤ n) (h1 : n ≤ 9223372036854775807) (w : World) (htab : Lib.TabIs Tryz.prog w "internal/strconv.uint64pow10" .u64 Lib.pow10Tab) :
    Calls Tryz.prog 63 #[.int .i64 n] w fun e w' => e = .returned (.string ⟨(Lib.itoa n).toArray⟩) ∧ ∃ k os, w' = grow (w.drewN k) os := Any.strconv_Itoa Tryz.laysM171 n h0 h1 w htab
def Tryz.laysM316_ren : Go.Shelf.Ren := ⟨fun | 316 => 110 | n => n, fun | 9 => 9 | 3 => 3 | 4 => 4 | 37 => 80 | 0 => 0 | 127 => 189 | 5 => 5 | n => n, fun | n => n⟩
theorem Tryz.laysM316 : Go.Proofs.LaysM.n316 Tryz.prog Tryz.laysM316_ren := {
  mixed := by kernel_rfl
  f316 := Tryz.func110.trans (congrArg some (by kernel_rfl))
  t0 := Tryz.underlying0
  a0 := Tryz.isAgg0
  z0 := Tryz.sizeOf0
  v0 := Tryz.zeroValue0
  t3 := Tryz.underlying3
  a3 := Tryz.isAgg3
  z3 := Tryz.sizeOf3
  v3 := Tryz.zeroValue3
  t4 := Tryz.underlying4
  a4 := Tryz.isAgg4
  z4 := Tryz.sizeOf4
  v4 := Tryz.zeroValue4
  t9 := Tryz.underlying9
  a9 := Tryz.isAgg9
  z9 := Tryz.sizeOf9
  v9 := Tryz.zeroValue9
  t37 := Tryz.underlying80
  a37 := Tryz.isAgg80
  z37 := Tryz.sizeOf80
  v37 := Tryz.zeroValue80
  t127 := Tryz.underlying189
  a127 := Tryz.isAgg189
  z127 := Tryz.sizeOf189
  v127 := Tryz.zeroValue189
  t5 := Tryz.underlying5
  a5 := Tryz.isAgg5
  z5 := Tryz.sizeOf5
  v5 := Tryz.zeroValue5
  i0 := by kernel_rfl
  i3 := by kernel_rfl
  i4 := by kernel_rfl
  i5 := by kernel_rfl
  i9 := by kernel_rfl
  i37 := by kernel_rfl
  i127 := by kernel_rfl }
open Go.RowKit in
/-- internal/stringslite.Clone (what strings.Clone calls): "Clone returns a fresh copy of s.": THE SAME BYTES. Of what was there nothing has turned (a new row is laid, and frozen, where s is not empty). (LAID: no walk: one application.) -/
theorem Tryz.stringslite_Clone (s : ByteArray) (w : World) (hlim : s.size ≤ 281474976710656) :
    Calls Tryz.prog 110 #[.string s] w fun e w' => e = .returned (.string s) ∧ Below w.heap.size w w' := Any.stringslite_Clone Tryz.laysM316 s w hlim
def Tryz.laysPu14_ren : Go.Shelf.Ren := ⟨fun | 14 => 90 | 16 => 108 | 17 => 109 | 19 => 133 | 20 => 134 | 21 => 135 | 22 => 136 | 23 => 137 | 24 => 138 | 25 => 110 | 27 => 63 | 26 => 152 | 28 => 81 | 29 => 95 | 30 => 119 | 31 => 120 | 32 => 121 | 33 => 122 | 35 => 145 | 34 => 144 | 36 => 146 | 37 => 147 | 38 => 148 | 39 => 156 | 40 => 157 | n => n, fun | 9 => 9 | 3 => 3 | 22 => 28 | 24 => 42 | 25 => 154 | 4 => 4 | 34 => 184 | 5 => 5 | 36 => 177 | 37 => 80 | 0 => 0 | 39 => 186 | 21 => 21 | 44 => 207 | 47 => 189 | 50 => 212 | 48 => 210 | 2 => 2 | 52 => 178 | 55 => 181 | 59 => 196 | 60 => 27 | 20 => 20 | 61 => 197 | 65 => 214 | 66 => 215 | 67 => 117 | n => n, fun | 0 => 5 | 1 => 6 | 2 => 2 | 3 => 7 | 4 => 8 | n => n⟩
theorem Tryz.laysPu14 : Go.Proofs.LaysPu.n14 Tryz.prog Tryz.laysPu14_ren := {
  mixed := by kernel_rfl
  f14 := Tryz.func90.trans (congrArg some (by kernel_rfl))
  f16 := Tryz.func108.trans (congrArg some (by kernel_rfl))
  f17 := Tryz.func109.trans (congrArg some (by kernel_rfl))
  f19 := Tryz.func133.trans (congrArg some (by kernel_rfl))
  f20 := Tryz.func134.trans (congrArg some (by kernel_rfl))
  f21 := Tryz.func135.trans (congrArg some (by kernel_rfl))
  f22 := Tryz.func136.trans (congrArg some (by kernel_rfl))
  f23 := Tryz.func137.trans (congrArg some (by kernel_rfl))
  f24 := Tryz.func138.trans (congrArg some (by kernel_rfl))
  f25 := Tryz.func110.trans (congrArg some (by kernel_rfl))
  f26 := Tryz.func152.trans (congrArg some (by kernel_rfl))
  f27 := Tryz.func63.trans (congrArg some (by kernel_rfl))
  f28 := Tryz.func81.trans (congrArg some (by kernel_rfl))
  f29 := Tryz.func95.trans (congrArg some (by kernel_rfl))
  f30 := Tryz.func119.trans (congrArg some (by kernel_rfl))
  f31 := Tryz.func120.trans (congrArg some (by kernel_rfl))
  f32 := Tryz.func121.trans (congrArg some (by kernel_rfl))
  f33 := Tryz.func122.trans (congrArg some (by kernel_rfl))
  f34 := Tryz.func144.trans (congrArg some (by kernel_rfl))
  f35 := Tryz.func145.trans (congrArg some (by kernel_rfl))
  f36 := Tryz.func146.trans (congrArg some (by kernel_rfl))
  f37 := Tryz.func147.trans (congrArg some (by kernel_rfl))
  f38 := Tryz.func148.trans (congrArg some (by kernel_rfl))
  f39 := Tryz.func156.trans (congrArg some (by kernel_rfl))
  f40 := Tryz.func157.trans (congrArg some (by kernel_rfl))
  t0 := Tryz.underlying0
  a0 := Tryz.isAgg0
  z0 := Tryz.sizeOf0
  v0 := Tryz.zeroValue0
  i0 := by kernel_rfl
  t2 := Tryz.underlying2
  a2 := Tryz.isAgg2
  z2 := Tryz.sizeOf2
  v2 := Tryz.zeroValue2
  i2 := by kernel_rfl
  t3 := Tryz.underlying3
  a3 := Tryz.isAgg3
  z3 := Tryz.sizeOf3
  v3 := Tryz.zeroValue3
  i3 := by kernel_rfl
  t4 := Tryz.underlying4
  a4 := Tryz.isAgg4
  z4 := Tryz.sizeOf4
  v4 := Tryz.zeroValue4
  i4 := by kernel_rfl
  t5 := Tryz.underlying5
  a5 := Tryz.isAgg5
  z5 := Tryz.sizeOf5
  v5 := Tryz.zeroValue5
  i5 := by kernel_rfl
  t9 := Tryz.underlying9
  a9 := Tryz.isAgg9
  z9 := Tryz.sizeOf9
  v9 := Tryz.zeroValue9
  i9 := by kernel_rfl
  t20 := Tryz.underlying20
  a20 := Tryz.isAgg20
  z20 := Tryz.sizeOf20
  v20 := Tryz.zeroValue20
  i20 := by kernel_rfl
  t21 := Tryz.underlying21
  a21 := Tryz.isAgg21
  z21 := Tryz.sizeOf21
  v21 := Tryz.zeroValue21
  i21 := by kernel_rfl
  t22 := Tryz.underlying28
  a22 := Tryz.isAgg28
  z22 := Tryz.sizeOf28
  v22 := Tryz.zeroValue28
  i22 := by kernel_rfl
  t24 := Tryz.underlying42
  a24 := Tryz.isAgg42
  z24 := Tryz.sizeOf42
  v24 := Tryz.zeroValue42
  i24 := by kernel_rfl
  t25 := Tryz.underlying154
  a25 := Tryz.isAgg154
  z25 := Tryz.sizeOf154
  v25 := Tryz.zeroValue154
  i25 := by kernel_rfl
  t34 := Tryz.underlying184
  a34 := Tryz.isAgg184
  z34 := Tryz.sizeOf184
  v34 := Tryz.zeroValue184
  i34 := by kernel_rfl
  c34 := by kernel_rfl
  t36 := Tryz.underlying177
  a36 := Tryz.isAgg177
  z36 := Tryz.sizeOf177
  v36 := Tryz.zeroValue177
  i36 := by kernel_rfl
  t37 := Tryz.underlying80
  a37 := Tryz.isAgg80
  z37 := Tryz.sizeOf80
  v37 := Tryz.zeroValue80
  i37 := by kernel_rfl
  t39 := Tryz.underlying186
  a39 := Tryz.isAgg186
  z39 := Tryz.sizeOf186
  v39 := Tryz.zeroValue186
  i39 := by kernel_rfl
  t44 := Tryz.underlying207
  a44 := Tryz.isAgg207
  z44 := Tryz.sizeOf207
  v44 := Tryz.zeroValue207
  i44 := by kernel_rfl
  t47 := Tryz.underlying189
  a47 := Tryz.isAgg189
  z47 := Tryz.sizeOf189
  v47 := Tryz.zeroValue189
  i47 := by kernel_rfl
  t48 := Tryz.underlying210
  a48 := Tryz.isAgg210
  z48 := Tryz.sizeOf210
  v48 := Tryz.zeroValue210
  i48 := by kernel_rfl
  t50 := Tryz.underlying212
  a50 := Tryz.isAgg212
  z50 := Tryz.sizeOf212
  v50 := Tryz.zeroValue212
  i50 := by kernel_rfl
  t52 := Tryz.underlying178
  a52 := Tryz.isAgg178
  z52 := Tryz.sizeOf178
  v52 := Tryz.zeroValue178
  i52 := by kernel_rfl
  t55 := Tryz.underlying181
  a55 := Tryz.isAgg181
  z55 := Tryz.sizeOf181
  v55 := Tryz.zeroValue181
  i55 := by kernel_rfl
  t59 := Tryz.underlying196
  a59 := Tryz.isAgg196
  z59 := Tryz.sizeOf196
  v59 := Tryz.zeroValue196
  i59 := by kernel_rfl
  t60 := Tryz.underlying27
  a60 := Tryz.isAgg27
  z60 := Tryz.sizeOf27
  v60 := Tryz.zeroValue27
  i60 := by kernel_rfl
  t61 := Tryz.underlying197
  a61 := Tryz.isAgg197
  z61 := Tryz.sizeOf197
  t65 := Tryz.underlying214
  a65 := Tryz.isAgg214
  z65 := Tryz.sizeOf214
  v65 := Tryz.zeroValue214
  i65 := by kernel_rfl
  t66 := Tryz.underlying215
  a66 := Tryz.isAgg215
  z66 := Tryz.sizeOf215
  v66 := Tryz.zeroValue215
  i66 := by kernel_rfl
  t67 := Tryz.underlying117
  a67 := Tryz.isAgg117
  z67 := Tryz.sizeOf117
  v67 := Tryz.zeroValue117
  i67 := by kernel_rfl
  g0 := by kernel_rfl
  m0 := by kernel_rfl
  g1 := by kernel_rfl
  m1 := by kernel_rfl
  g2 := by kernel_rfl
  m2 := by kernel_rfl
  g3 := by kernel_rfl
  m3 := by kernel_rfl
  g4 := by kernel_rfl
  m4 := by kernel_rfl }
open Go.RowKit in
/-- strconv.ParseUint(s, 10, 64), AT EVERY STRING THAT SPELLS A uint64 ('Lib.parseUintB 64 s.data.toList = .ok u'): u, AND NO ERROR. (LAID: no walk: one application.) -/
theorem Tryz.strconv_ParseUint_10_at64_ok (s : ByteArray) (hmax : s.size ≤ 9223372036854775806) (u : Nat) (h : Lib.parseUintB 64 s.data.toList = .ok u) (w : World) :
    Calls Tryz.prog 90 #[.string s, .int .i64 10, .int .i64 64] w fun e w' => e = .returned (.tuple #[.int .u64 u, .nilIface]) ∧ (w' = w ∨ w' = Lib.bytesWorld w 5 s) := Any.strconv_ParseUint_10_at64_ok Tryz.laysPu14 s hmax u h w
open Go.RowKit in
/-- strconv.ParseUint(s, 10, 64), AT EVERY STRING THAT IS NO ROW OF DECIMAL DIGITS (a sign is a fault): 0, AND AN ERROR THAT IS NOT nil: a *NumError in a new block N: {Func: "ParseUint", Num: s's bytes, Err: what the variable ErrSyntax holds}. Of what was there nothing has turned. (LAID: no walk: one application.) -/
theorem Tryz.strconv_ParseUint_10_at64_syntax (s : ByteArray) (hlim : s.size ≤ 281474976710656) (h : Lib.parseUintB 64 s.data.toList = .«syntax») (ev : Value) (w : World) (hv : w.cell? ⟨5, 0, none⟩ = some ev) (hev : ev = .nilIface ∨ ∃ te pe, ev = .iface te pe) :
    Calls Tryz.prog 90 #[.string s, .int .i64 10, .int .i64 64] w fun e w' => ∃ N, e = .returned (.tuple #[.int .u64 0, .iface 186 (.pointer (some ⟨N, 0, none⟩))]) ∧ w.heap.size ≤ N ∧ w'.heap[N]? = some (.cells #[.string ⟨#[80, 97, 114, 115, 101, 85, 105, 110, 116]⟩, .string s, ev] 207 (0, 0)) ∧ Below w.heap.size w w' := Any.strconv_ParseUint_10_at64_syntax Tryz.laysPu14 s hlim h ev w hv hev
open Go.RowKit in
/-- strconv.ParseUint(s, 10, 64), AT EVERY NUMERAL THAT NO uint64 HOLDS: THE GREATEST uint64, AND AN ERROR THAT IS NOT nil: a *NumError in a new block N: {Func: "ParseUint", Num: s's bytes, Err: what the variable ErrRange holds}. Of what was there nothing has turned. (LAID: no walk: one application.) -/
theorem Tryz.strconv_ParseUint_10_at64_range (s : ByteArray) (hlim : s.size ≤ 281474976710656) (h : Lib.parseUintB 64 s.data.toList = .range) (ev : Value) (w : World) (hv : w.cell? ⟨6, 0, none⟩ = some ev) (hev : ev = .nilIface ∨ ∃ te pe, ev = .iface te pe) :
    Calls Tryz.prog 90 #[.string s, .int .i64 10, .int .i64 64] w fun e w' => ∃ N, e = .returned (.tuple #[.int .u64 18446744073709551615, .iface 186 (.pointer (some ⟨N, 0, none⟩))]) ∧ w.heap.size ≤ N ∧ w'.heap[N]? = some (.cells #[.string ⟨#[80, 97, 114, 115, 101, 85, 105, 110, 116]⟩, .string s, ev] 207 (0, 0)) ∧ Below w.heap.size w w' := Any.strconv_ParseUint_10_at64_range Tryz.laysPu14 s hlim h ev w hv hev
def Tryz.lays219_ren : Go.Shelf.Ren := ⟨fun | 219 => 107 | 217 => 129 | 225 => 130 | 224 => 131 | 267 => 132 | 266 => 150 | 314 => 151 | n => n, fun | 9 => 9 | 3 => 3 | 4 => 4 | 5 => 5 | 46 => 177 | 146 => 204 | 51 => 27 | n => n, fun | 1 => 1 | n => n⟩
theorem Tryz.lays219 : Go.Proofs.Lays.n219 Tryz.prog Tryz.lays219_ren := {
  mixed := by kernel_rfl
  f217 := Tryz.func129.trans (congrArg some (by kernel_rfl))
  f219 := Tryz.func107.trans (congrArg some (by kernel_rfl))
  f224 := Tryz.func131.trans (congrArg some (by kernel_rfl))
  f225 := Tryz.func130.trans (congrArg some (by kernel_rfl))
  f266 := Tryz.func150.trans (congrArg some (by kernel_rfl))
  f267 := Tryz.func132.trans (congrArg some (by kernel_rfl))
  f314 := Tryz.func151.trans (congrArg some (by kernel_rfl))
  t3 := Tryz.underlying3
  a3 := Tryz.isAgg3
  z3 := Tryz.sizeOf3
  v3 := Tryz.zeroValue3
  t4 := Tryz.underlying4
  a4 := Tryz.isAgg4
  z4 := Tryz.sizeOf4
  v4 := Tryz.zeroValue4
  t5 := Tryz.underlying5
  a5 := Tryz.isAgg5
  z5 := Tryz.sizeOf5
  v5 := Tryz.zeroValue5
  t9 := Tryz.underlying9
  a9 := Tryz.isAgg9
  z9 := Tryz.sizeOf9
  v9 := Tryz.zeroValue9
  t46 := Tryz.underlying177
  a46 := Tryz.isAgg177
  z46 := Tryz.sizeOf177
  v46 := Tryz.zeroValue177
  t51 := Tryz.underlying27
  a51 := Tryz.isAgg27
  z51 := Tryz.sizeOf27
  v51 := Tryz.zeroValue27
  t146 := Tryz.underlying204
  a146 := Tryz.isAgg204
  z146 := Tryz.sizeOf204
  v146 := Tryz.zeroValue204
  g1 := by kernel_rfl }
open Go.RowKit Go.Lib in
/-- internal/stringslite.Index (what strings.Index calls) AT A substr OF ONE BYTE c: IT RETURNS 'Lib.indexByte s c'; the world is as it was. (LAID: no walk: one application.) -/
theorem Tryz.stringslite_Index_one (s : ByteArray) (c : UInt8) (w : World) :
    Calls Tryz.prog 107 #[.string s, .string ⟨#[c]⟩] w fun e w' => e = .returned (.int .i64 (Lib.indexByte s.data.toList c)) ∧ w' = w := Any.stringslite_Index_one Tryz.lays219 s c w
def Tryz.lays102_ren : Go.Shelf.Ren := ⟨fun | 102 => 57 | 209 => 76 | 207 => 89 | n => n, fun | 9 => 9 | 4 => 4 | 3 => 3 | n => n, fun | n => n⟩
theorem Tryz.lays102 : Go.Proofs.Lays.n102 Tryz.prog Tryz.lays102_ren := {
  mixed := by kernel_rfl
  f102 := Tryz.func57.trans (congrArg some (by kernel_rfl))
  f207 := Tryz.func89.trans (congrArg some (by kernel_rfl))
  f209 := Tryz.func76.trans (congrArg some (by kernel_rfl))
  t3 := Tryz.underlying3
  a3 := Tryz.isAgg3
  z3 := Tryz.sizeOf3
  v3 := Tryz.zeroValue3
  t4 := Tryz.underlying4
  a4 := Tryz.isAgg4
  z4 := Tryz.sizeOf4
  v4 := Tryz.zeroValue4
  t9 := Tryz.underlying9
  a9 := Tryz.isAgg9
  z9 := Tryz.sizeOf9
  v9 := Tryz.zeroValue9 }
open Go.RowKit Go.Lib in
/-- strings.TrimSuffix: "TrimSuffix returns s without the provided trailing suffix string. If s doesn't end with suffix, s is returned unchanged.": IT RETURNS 'Lib.trimSuffix s suffix'; the world is as it was. (LAID: no walk: one application.) -/
theorem Tryz.strings_TrimSuffix (s p : ByteArray) (w : World) (hs : s.size ≤ 9223372036854775807) :
    Calls Tryz.prog 57 #[.string s, .string p] w fun e w' => e = .returned (.string ⟨(Lib.trimSuffix s.data.toList p.data.toList).toArray⟩) ∧ w' = w := Any.strings_TrimSuffix Tryz.lays102 s p w hs
def Tryz.lays146_ren : Go.Shelf.Ren := ⟨fun | 146 => 56 | 221 => 75 | 268 => 86 | 138 => 87 | 143 => 88 | 195 => 104 | 197 => 105 | 218 => 106 | 219 => 107 | 260 => 128 | 217 => 129 | 225 => 130 | 224 => 131 | 267 => 132 | 266 => 150 | 314 => 151 | n => n, fun | 9 => 9 | 31 => 89 | 3 => 3 | 4 => 4 | 0 => 0 | 105 => 165 | 21 => 21 | 5 => 5 | 46 => 177 | 119 => 200 | 139 => 203 | 138 => 202 | 146 => 204 | 51 => 27 | n => n, fun | 1 => 1 | 3 => 3 | 4 => 4 | n => n⟩
theorem Tryz.lays146 : Go.Proofs.Lays.n146 Tryz.prog Tryz.lays146_ren := {
  mixed := by kernel_rfl
  f138 := Tryz.func87.trans (congrArg some (by kernel_rfl))
  f143 := Tryz.func88.trans (congrArg some (by kernel_rfl))
  f146 := Tryz.func56.trans (congrArg some (by kernel_rfl))
  f195 := Tryz.func104.trans (congrArg some (by kernel_rfl))
  f197 := Tryz.func105.trans (congrArg some (by kernel_rfl))
  f217 := Tryz.func129.trans (congrArg some (by kernel_rfl))
  f218 := Tryz.func106.trans (congrArg some (by kernel_rfl))
  f219 := Tryz.func107.trans (congrArg some (by kernel_rfl))
  f221 := Tryz.func75.trans (congrArg some (by kernel_rfl))
  f224 := Tryz.func131.trans (congrArg some (by kernel_rfl))
  f225 := Tryz.func130.trans (congrArg some (by kernel_rfl))
  f260 := Tryz.func128.trans (congrArg some (by kernel_rfl))
  f266 := Tryz.func150.trans (congrArg some (by kernel_rfl))
  f267 := Tryz.func132.trans (congrArg some (by kernel_rfl))
  f268 := Tryz.func86.trans (congrArg some (by kernel_rfl))
  f314 := Tryz.func151.trans (congrArg some (by kernel_rfl))
  t0 := Tryz.underlying0
  a0 := Tryz.isAgg0
  z0 := Tryz.sizeOf0
  v0 := Tryz.zeroValue0
  t3 := Tryz.underlying3
  a3 := Tryz.isAgg3
  z3 := Tryz.sizeOf3
  v3 := Tryz.zeroValue3
  t4 := Tryz.underlying4
  a4 := Tryz.isAgg4
  z4 := Tryz.sizeOf4
  v4 := Tryz.zeroValue4
  t5 := Tryz.underlying5
  a5 := Tryz.isAgg5
  z5 := Tryz.sizeOf5
  v5 := Tryz.zeroValue5
  t9 := Tryz.underlying9
  a9 := Tryz.isAgg9
  z9 := Tryz.sizeOf9
  v9 := Tryz.zeroValue9
  t21 := Tryz.underlying21
  a21 := Tryz.isAgg21
  z21 := Tryz.sizeOf21
  v21 := Tryz.zeroValue21
  t31 := Tryz.underlying89
  a31 := Tryz.isAgg89
  z31 := Tryz.sizeOf89
  v31 := Tryz.zeroValue89
  t46 := Tryz.underlying177
  a46 := Tryz.isAgg177
  z46 := Tryz.sizeOf177
  v46 := Tryz.zeroValue177
  t51 := Tryz.underlying27
  a51 := Tryz.isAgg27
  z51 := Tryz.sizeOf27
  v51 := Tryz.zeroValue27
  t105 := Tryz.underlying165
  a105 := Tryz.isAgg165
  z105 := Tryz.sizeOf165
  v105 := Tryz.zeroValue165
  t119 := Tryz.underlying200
  a119 := Tryz.isAgg200
  z119 := Tryz.sizeOf200
  t138 := Tryz.underlying202
  a138 := Tryz.isAgg202
  z138 := Tryz.sizeOf202
  v138 := Tryz.zeroValue202
  t139 := Tryz.underlying203
  a139 := Tryz.isAgg203
  z139 := Tryz.sizeOf203
  v139 := Tryz.zeroValue203
  t146 := Tryz.underlying204
  a146 := Tryz.isAgg204
  z146 := Tryz.sizeOf204
  v146 := Tryz.zeroValue204
  g1 := by kernel_rfl
  g3 := by kernel_rfl
  g4 := by kernel_rfl }
open Go.RowKit Go.Lib in
/-- strings.Split. (LAID: no walk: one application.) -/
theorem Tryz.strings_Split (s sep : ByteArray) (m : Int) (w : World) (hs : s.size < 4294967281) (hm : w.cell? ⟨1, 0, none⟩ = some (.int .i64 m)) (h1 : 1 ≤ sep.size) :
    Calls Tryz.prog 56 #[.string s, .string sep] w fun e w' =>
      e = .returned (.slice (some ⟨w.heap.size, 0, none⟩) (Lib.countB s sep + 1) (Lib.countB s sep + 1)) ∧ w' = w.alloc (.cells ((Lib.splitB sep 0 (Lib.countB s sep) s).map Value.string).toArray 9) := Any.strings_Split Tryz.lays146 (by kernel_rfl) s sep m w hs hm h1
end Go.Proofs

/- Small lemmas of my own that every walk of this seat uses: a world forgotten but for what is said of it, a fact hidden, old cells behind 'Below'. -/
namespace Go.Proofs.YtkogafponpjdnaaGreatDoor
open Go.RowKit

theorem hide {p : Prop} (h : p) : Hid p := h

/-- Of the world that a walk stands in only 'F' is kept. -/
theorem wp_forget {P : Program} {c : Code} {Q : Exit → Act → World → Prop} {a : Act} {W0 : World} (F : World → Prop) (h : F W0) (H : ∀ W, F W → Code.wp P c Q a W) : Code.wp P c Q a W0 := H _ h

theorem bcell {W w1 : World} (hb : Below W.heap.size W w1) : (∀ b o, b < W.heap.size → w1.cell? ⟨b, o, none⟩ = W.cell? ⟨b, o, none⟩) ∧ (∀ b o, b < W.heap.size → w1.frozen? ⟨b, o, none⟩ = W.frozen? ⟨b, o, none⟩) :=
  ⟨fun b o h => hb.cell (p := ⟨b, o, none⟩) h, fun b o h => hb.frozen (p := ⟨b, o, none⟩) h⟩

theorem ret_int {k : IntKind} {a b : Int} (h : a = b) : Ending.returned (.int k a) = .returned (.int k b) := by rw [h]
theorem ret_bool {a b : Bool} (h : a = b) : Ending.returned (.bool a) = .returned (.bool b) := by rw [h]

theorem below_drewN' {B : Nat} {a w : World} (h : Below B a w) (n : Nat) : Below B a (w.drewN n) := ⟨h.os, h.tape, h.output, h.size, h.block⟩

/-- 'Calls.quiet_of_same', in a world that has drawn already. -/
theorem quiet_same {P : Program} {f : FuncId} {args : Array Value} {w : World} {a n : Nat} {v : Value}
    (h : Calls P f args (w.drewN (a + n)) fun e w' => e = .returned v ∧ w' = w.drewN (a + n)) : Calls P f args (w.drewN (a + n)) fun e w'' => e = .returned v ∧ ∃ m, w'' = w.drewN (a + m) :=
  h.mono fun _ _ ⟨he, hm⟩ => ⟨he, n, hm⟩
theorem quiet_draws {P : Program} {f : FuncId} {args : Array Value} {w : World} {a n : Nat} {v : Value}
    (h : Calls P f args (w.drewN (a + n)) fun e w' => e = .returned v ∧ ∃ m, w' = (w.drewN (a + n)).drewN m) : Calls P f args (w.drewN (a + n)) fun e w'' => e = .returned v ∧ ∃ m, w'' = w.drewN (a + m) :=
  h.mono fun _ _ ⟨he, m, hm⟩ => ⟨he, n + m, by rw [hm, World.drewN_drewN, Nat.add_assoc]⟩

/-- 'same(nil, f)'. -/
theorem same_nil (f : Int) (w : World) :
    Calls Tryz.prog 13 #[.nilIface, .int .i64 f] w fun e w' => e = .returned (.bool (f == 0)) ∧ w' = w := by
  go_enter Tryz.func13, Tryz.ntmps13
  go_wp2
  go_ret
  exact ⟨rfl, rfl⟩

theorem assert_errno (n : Int) (w : World) : (Instr.typeAssert (.iface 75 (.int .i64 n)) 42 75 true).run Tryz.prog w = .ok (.tuple #[.int .i64 n, .bool true]) w := by kernel_rfl

/-- 'same(err, f)' at an error of the project's own. -/
theorem same_errno (n f : Int) (w : World) :
    Calls Tryz.prog 13 #[.iface 75 (.int .i64 n), .int .i64 f] w fun e w' => e = .returned (.bool (decide (0 < f) && n == f)) ∧ w' = w := by
  have ta := assert_errno n
  by_cases h : 0 < f
  · go_enter Tryz.func13, Tryz.ntmps13
    go_wp2
    go_ret
    exact ⟨by simp [h], rfl⟩
  · have hd : decide (0 < f) = false := by simpa using h
    rw [hd]
    go_enter Tryz.func13, Tryz.ntmps13
    go_wp2
    go_ret
    exact ⟨rfl, rfl⟩
end Go.Proofs.YtkogafponpjdnaaGreatDoor

/- Numbers in texts: digits and what reads them; texts of numbers with signs between. No model in it. -/
namespace Go.Proofs.YtkogafponpjdnaaGreatDoor
open Go.RowKit

def isDig (c : UInt8) : Bool := decide (48 ≤ c.toNat) && decide (c.toNat ≤ 57)
def digVal (n : Nat) (l : List UInt8) : Nat := l.foldl (fun n c => n * 10 + (c.toNat - 48)) n

theorem digVal_nil (n : Nat) : digVal n [] = n := rfl
theorem digVal_cons (n : Nat) (c : UInt8) (r : List UInt8) : digVal n (c :: r) = digVal (n * 10 + (c.toNat - 48)) r := by
  unfold digVal
  rw [List.foldl_cons]
theorem digVal_snoc (c : UInt8) (l : List UInt8) (n : Nat) : digVal n (l ++ [c]) = digVal n l * 10 + (c.toNat - 48) := by
  unfold digVal
  rw [List.foldl_append, List.foldl_cons, List.foldl_nil]

theorem ofDig (d : Nat) (h : d < 10) : (UInt8.ofNat (48 + d)).toNat = 48 + d := by
  rw [UInt8.toNat_ofNat']
  exact Nat.mod_eq_of_lt (by omega)
theorem isDig_of (d : Nat) (h : d < 10) : isDig (UInt8.ofNat (48 + d)) = true := by
  unfold isDig
  rw [ofDig d h]
  simp
  omega

theorem dec_all (u : Nat) : (Lib.decDigits u).all isDig = true := by
  induction u using Nat.strongRecOn with
  | _ u ih =>
    rw [Lib.decDigits]
    split
    · rename_i h
      simp only [List.all_cons, List.all_nil, isDig_of u h, Bool.and_self]
    · rw [List.all_append, ih (u / 10) (by omega)]
      simp only [List.all_cons, List.all_nil, isDig_of (u % 10) (by omega), Bool.and_self]

theorem dec_val (u : Nat) : digVal 0 (Lib.decDigits u) = u := by
  induction u using Nat.strongRecOn with
  | _ u ih =>
    rw [Lib.decDigits]
    split
    · rename_i h
      rw [digVal_cons, digVal_nil, ofDig u h]
      omega
    · rw [digVal_snoc, ih (u / 10) (by omega), ofDig _ (by omega)]
      omega

theorem dec_ne (u : Nat) : Lib.decDigits u ≠ [] := by
  intro h
  have := congrArg List.length h
  rw [Lib.decDigits_length] at this
  have := Lib.nDigits_pos u
  simp at *
  omega

theorem head_app (a b : List UInt8) (h : a ≠ []) : (a ++ b).head? = a.head? := by
  cases a with
  | nil => exact absurd rfl h
  | cons x r => rfl

theorem dec_head (u : Nat) (h0 : 1 ≤ u) : (Lib.decDigits u).head? ≠ some 48 := by
  induction u using Nat.strongRecOn with
  | _ u ih =>
    rw [Lib.decDigits]
    split
    · rename_i h
      intro hh
      have := congrArg UInt8.toNat (Option.some.inj hh)
      rw [ofDig u h] at this
      simp at this
      omega
    · rw [head_app _ _ (dec_ne _)]
      exact ih (u / 10) (by omega) (by omega)

theorem digVal_pos : ∀ (l : List UInt8) (n : Nat), 1 ≤ n → 1 ≤ digVal n l
  | [], _, h => h
  | c :: r, n, h => by rw [digVal_cons]; exact digVal_pos r _ (by omega)

theorem digVal_head (l : List UInt8) (hn : l ≠ []) (ha : l.all isDig = true) (hh : l.head? ≠ some 48) : 1 ≤ digVal 0 l := by
  cases l with
  | nil => exact absurd rfl hn
  | cons c r =>
    rw [digVal_cons]
    refine digVal_pos r _ ?_
    simp only [List.all_cons, Bool.and_eq_true] at ha
    have h1 := ha.1
    unfold isDig at h1
    simp only [Bool.and_eq_true, decide_eq_true_eq] at h1
    have : c.toNat ≠ 48 := fun e => hh (by rw [List.head?_cons]; exact congrArg some (UInt8.toNat_inj.1 e))
    omega

theorem digit_back (c : UInt8) (h : isDig c = true) : UInt8.ofNat (48 + (c.toNat - 48)) = c := by
  unfold isDig at h
  simp only [Bool.and_eq_true, decide_eq_true_eq] at h
  apply UInt8.toNat_inj.1
  rw [ofDig _ (by omega)]
  omega
theorem digit_lt (c : UInt8) (h : isDig c = true) : c.toNat - 48 < 10 := by
  unfold isDig at h
  simp only [Bool.and_eq_true, decide_eq_true_eq] at h
  omega

/-- Digits without noughts ahead are their number's. -/
theorem dec_back : ∀ (k : Nat) (l : List UInt8), l.length = k → l ≠ [] → l.all isDig = true → (1 < l.length → l.head? ≠ some 48) → Lib.decDigits (digVal 0 l) = l
  | 0, l, hk, hn, _, _ => absurd (List.eq_nil_of_length_eq_zero hk) hn
  | k + 1, l, hk, hn, ha, hh => by
    obtain ⟨l', c, rfl⟩ : ∃ l' c, l = l' ++ [c] := ⟨l.dropLast, l.getLast hn, (List.dropLast_concat_getLast hn).symm⟩
    rw [List.all_append, Bool.and_eq_true] at ha
    obtain ⟨ha1, ha2⟩ := ha
    have hc : isDig c = true := by simpa using ha2
    have hl := digit_lt c hc
    rw [digVal_snoc]
    by_cases he : l' = []
    · subst he
      rw [digVal_nil, List.nil_append, Nat.zero_mul, Nat.zero_add, Lib.decDigits, dif_pos hl, digit_back c hc]
    · have hlen : 1 < (l' ++ [c]).length := by
        rw [List.length_append]
        have := List.length_pos_iff.2 he
        simp
        omega
      have hh' : l'.head? ≠ some 48 := by
        have := hh hlen
        rwa [head_app _ _ he] at this
      have hp := digVal_head l' he ha1 hh'
      have ih := dec_back k l' (by simpa using hk) he ha1 (fun _ => hh')
      rw [Lib.decDigits, dif_neg (by omega), show (digVal 0 l' * 10 + (c.toNat - 48)) / 10 = digVal 0 l' by omega, show (digVal 0 l' * 10 + (c.toNat - 48)) % 10 = c.toNat - 48 by omega, ih, digit_back c hc]

theorem nDigits_le5 (n : Nat) (h : n < 100000) : Lib.nDigits n ≤ 5 := by
  by_cases h1 : n < 10
  · rw [Lib.nDigits_small h1]; omega
  rw [Lib.nDigits_big h1]
  by_cases h2 : n / 10 < 10
  · rw [Lib.nDigits_small h2]; omega
  rw [Lib.nDigits_big h2]
  by_cases h3 : n / 10 / 10 < 10
  · rw [Lib.nDigits_small h3]; omega
  rw [Lib.nDigits_big h3]
  by_cases h4 : n / 10 / 10 / 10 < 10
  · rw [Lib.nDigits_small h4]; omega
  rw [Lib.nDigits_big h4, Lib.nDigits_small (by omega)]
  omega

theorem digVal_lt : ∀ (l : List UInt8) (n : Nat), l.all isDig = true → digVal n l + 1 ≤ (n + 1) * 10 ^ l.length
  | [], n, _ => by rw [digVal_nil, List.length_nil, Nat.pow_zero, Nat.mul_one]; exact Nat.le_refl _
  | c :: r, n, h => by
    simp only [List.all_cons, Bool.and_eq_true] at h
    have h1 := digVal_lt r (n * 10 + (c.toNat - 48)) h.2
    have h2 := digit_lt c h.1
    rw [digVal_cons, List.length_cons, Nat.pow_succ, Nat.mul_comm (10 ^ r.length) 10, ← Nat.mul_assoc]
    exact Nat.le_trans h1 (Nat.mul_le_mul_right _ (by omega))

/-- What 'number' reads. -/
def numR (l : List UInt8) : Option Nat := if l.length = 0 ∨ 5 < l.length ∨ (1 < l.length ∧ l.head? = some 48) ∨ l.all isDig = false then none else some (digVal 0 l)

theorem numR_dec (n : Nat) (h : n < 100000) : numR (Lib.decDigits n) = some n := by
  have h5 := nDigits_le5 n h
  have h1 := Lib.nDigits_pos n
  unfold numR
  rw [if_neg, dec_val]
  rw [Lib.decDigits_length, dec_all]
  rintro (h | h | ⟨h, h'⟩ | h)
  · omega
  · omega
  · refine dec_head n ?_ h'
    by_cases h0 : n = 0
    · subst h0
      rw [Lib.nDigits_small (by decide)] at h
      omega
    · omega
  · cases h
theorem numR_some {l : List UInt8} {n : Nat} (h : numR l = some n) : l = Lib.decDigits n ∧ n < 100000 := by
  unfold numR at h
  split at h
  · cases h
  · rename_i hc
    have hc1 : ¬ l.length = 0 := fun e => hc (Or.inl e)
    have hc2 : ¬ 5 < l.length := fun e => hc (Or.inr (Or.inl e))
    have hc3 : 1 < l.length → l.head? ≠ some 48 := fun e e' => hc (Or.inr (Or.inr (Or.inl ⟨e, e'⟩)))
    have hc4 : l.all isDig = true := by
      cases hb : l.all isDig
      · exact absurd (Or.inr (Or.inr (Or.inr hb))) hc
      · rfl
    have hb := dec_back l.length l rfl (fun e => hc1 (by rw [e]; rfl)) hc4 hc3
    rw [Option.some.inj h] at hb
    refine ⟨hb.symm, ?_⟩
    have h1 := Lib.lt_pow_nDigits n
    have h2 : Lib.nDigits n ≤ 5 := by
      rw [← Lib.decDigits_length, hb]
      omega
    exact Nat.lt_of_lt_of_le h1 (Nat.pow_le_pow_right (n := 10) (j := 5) (by decide) h2)

/-- Numbers, signs between. -/
def joinN : List UInt8 → List Nat → List UInt8
  | c :: cs, n :: ns => Lib.decDigits n ++ c :: joinN cs ns
  | _, n :: _ => Lib.decDigits n
  | _, [] => []

theorem indexByte_app (c : UInt8) (b : List UInt8) : ∀ a : List UInt8, c ∉ a → Lib.indexByte (a ++ c :: b) c = a.length
  | [], _ => by rw [List.nil_append, Lib.indexByte, if_pos (by simp)]; rfl
  | x :: a, h => by
    have h1 : x ≠ c := fun e => h (by rw [e]; exact List.mem_cons_self ..)
    rw [List.cons_append, Lib.indexByte, indexByte_app c b a (fun e => h (List.mem_cons_of_mem _ e)), if_neg (by simpa using h1), if_neg (by simp)]
    simp
theorem indexByte_split (l : List UInt8) (c : UInt8) (i : Nat) (h : Lib.indexByte l c = i) : i < l.length ∧ l = l.take i ++ c :: l.drop (i + 1) := by
  obtain ⟨h1, _⟩ := Lib.indexByte_some h
  obtain ⟨hi, he⟩ := List.getElem?_eq_some_iff.1 h1
  refine ⟨hi, ?_⟩
  rw [← he]
  simp
theorem sign_notin (c : UInt8) (hc : isDig c = false) (n : Nat) : c ∉ Lib.decDigits n := fun h => by
  have := List.all_eq_true.1 (dec_all n) c h
  rw [hc] at this
  cases this

/-- What 'split' gives. -/
def splitN : List UInt8 → List UInt8 → Option (List Nat)
  | [], s => (numR s).map fun n => [n]
  | c :: cs, s => if Lib.indexByte s c < 0 then none else
      (numR (s.take (Lib.indexByte s c).toNat)).bind fun n => (splitN cs (s.drop ((Lib.indexByte s c).toNat + 1))).map fun ns => n :: ns

theorem splitN_join : ∀ (cs : List UInt8) (ns : List Nat), (∀ c ∈ cs, isDig c = false) → ns.length = cs.length + 1 → (∀ n ∈ ns, n < 100000) → splitN cs (joinN cs ns) = some ns
  | [], [n], _, _, h => by
    show (numR (Lib.decDigits n)).map _ = _
    rw [numR_dec n (h n (List.mem_cons_self ..))]
    rfl
  | c :: cs, n :: ns, hc, hl, h => by
    have hi : Lib.indexByte (Lib.decDigits n ++ c :: joinN cs ns) c = (Lib.decDigits n).length := indexByte_app c _ _ (sign_notin c (hc c (List.mem_cons_self ..)) n)
    show splitN (c :: cs) (Lib.decDigits n ++ c :: joinN cs ns) = _
    rw [splitN, hi, if_neg (by omega), Int.toNat_natCast, List.take_left' rfl, numR_dec n (h n (List.mem_cons_self ..)), List.drop_append, List.drop_eq_nil_of_le (by omega), show (Lib.decDigits n).length + 1 - (Lib.decDigits n).length = 1 by omega]
    show ((splitN cs (joinN cs ns)).map fun ns => n :: ns) = _
    rw [splitN_join cs ns (fun d hd => hc d (List.mem_cons_of_mem _ hd)) (by simpa using hl) (fun m hm => h m (List.mem_cons_of_mem _ hm))]
    rfl
  | [], [], _, hl, _ => by simp at hl
  | [], _ :: _ :: _, _, hl, _ => by simp at hl
  | _ :: _, [], _, hl, _ => by simp at hl
theorem splitN_some : ∀ (cs : List UInt8) (s : List UInt8) (ns : List Nat), splitN cs s = some ns → ns.length = cs.length + 1 ∧ (∀ n ∈ ns, n < 100000) ∧ s = joinN cs ns
  | [], s, ns, h => by
    rw [splitN, Option.map_eq_some_iff] at h
    obtain ⟨n, hn, rfl⟩ := h
    obtain ⟨h1, h2⟩ := numR_some hn
    refine ⟨rfl, fun m hm => ?_, h1⟩
    rw [List.mem_singleton.1 hm]
    exact h2
  | c :: cs, s, ns, h => by
    rw [splitN] at h
    split at h
    · cases h
    · rename_i hi
      rw [Option.bind_eq_some_iff] at h
      obtain ⟨n, hn, h⟩ := h
      rw [Option.map_eq_some_iff] at h
      obtain ⟨ns', hns, rfl⟩ := h
      obtain ⟨h1, h2⟩ := numR_some hn
      obtain ⟨h3, h4, h5⟩ := splitN_some cs _ ns' hns
      refine ⟨by rw [List.length_cons, h3, List.length_cons], fun m hm => ?_, ?_⟩
      · rcases List.mem_cons.1 hm with rfl | hm
        · exact h2
        · exact h4 m hm
      · obtain ⟨_, he⟩ := indexByte_split s c (Lib.indexByte s c).toNat (by omega)
        show s = Lib.decDigits n ++ c :: joinN cs ns'
        rw [← h1, ← h5]
        exact he
end Go.Proofs.YtkogafponpjdnaaGreatDoor

/- strconv.Itoa and strings.Cut at this seat. -/
namespace Go.Proofs.YtkogafponpjdnaaGreatDoor
open Go.RowKit

/-- The library's table of powers of ten lies there. -/
def Tab (w : World) : Prop := Lib.TabIs Tryz.prog w "internal/strconv.uint64pow10" .u64 Lib.pow10Tab
theorem tab_on {w w' : World} (h : Tab w) (hb : Below w.heap.size w w') : Tab w' := Lib.tabBelow_of_tabIs h w' hb

theorem itoa_any (n : Nat) (hn : n ≤ 9223372036854775807) (w : World) (ht : Tab w) : Calls Tryz.prog 63 #[.int .i64 n] w fun e w' => e = .returned (.string ⟨(Lib.decDigits n).toArray⟩) ∧ Below w.heap.size w w' :=
  (Tryz.strconv_Itoa n (by omega) (by omega) w ht).mono fun e w' ⟨he, k, os, hw⟩ => ⟨by rw [he, Lib.itoa_nonneg], by
    rw [hw]
    exact ⟨rfl, rfl, rfl, by simp [Sort.grow], fun k hk => by simp [Sort.grow, Array.getElem?_append_left hk]⟩⟩

theorem lite_cut_hit (s sep : ByteArray) (i : Nat) (hx : ∀ w, Calls Tryz.prog 107 #[.string s, .string sep] w fun e w' => e = .returned (.int .i64 i) ∧ w' = w) (hl : i + sep.size ≤ s.size) (hs : s.size < 4294967296) (w : World) :
    Calls Tryz.prog 155 #[.string s, .string sep] w fun e w' => e = .returned (.tuple #[.string (s.extract 0 i), .string (s.extract (i + sep.size) s.size), .bool true]) ∧ ∃ n, w' = w.drewN n := by
  have c1 : (0 : Int) ≤ i := by omega
  have c2 : (i : Int) ≤ s.size := by omega
  have c3 : (0 : Int) ≤ (i : Int) + sep.size := by omega
  have c4 : (i : Int) + sep.size ≤ s.size := by omega
  go_enter Tryz.func155, Tryz.ntmps155
  go_wp2_with (go_at_call 107; refine (hx _).mono ?_; rintro e w' ⟨rfl, rfl⟩)
  go_quiet (fail)
  go_wp2
  go_ret3
  exact ⟨rfl, _, rfl⟩

theorem cut_hit (s : ByteArray) (c : UInt8) (i : Nat) (hi : Lib.indexByte s.data.toList c = i) (hs : s.size < 4294967296) (w : World) : Calls Tryz.prog 142 #[.string s, .string ⟨#[c]⟩] w fun e w' => e = .returned (.tuple #[.string (s.extract 0 i), .string (s.extract (i + 1) s.size), .bool true]) ∧ ∃ n, w' = w.drewN n := by
  have hl : i < s.size := by
    rw [Lib.size_eq]
    exact (indexByte_split _ _ _ hi).1
  have hc := lite_cut_hit s ⟨#[c]⟩ i (fun w => (Tryz.stringslite_Index_one s c w).mono fun e w' ⟨he, hw⟩ => ⟨by rw [he, hi], hw⟩) hl hs w
  go_enter Tryz.func142, Tryz.ntmps142
  go_wp2_with (go_at_call 155; refine hc.mono ?_; rintro e w' ⟨rfl, n, rfl⟩)
  go_ret3
  exact ⟨rfl, _, rfl⟩

theorem cut_miss (s : ByteArray) (c : UInt8) (hi : Lib.indexByte s.data.toList c < 0) (w : World) : Calls Tryz.prog 142 #[.string s, .string ⟨#[c]⟩] w fun e w' => e = .returned (.tuple #[.string s, .string ⟨#[]⟩, .bool false]) ∧ ∃ n, w' = w.drewN n := by
  have hc : Calls Tryz.prog 155 #[.string s, .string ⟨#[c]⟩] w fun e w' => e = .returned (.tuple #[.string s, .string ⟨#[]⟩, .bool false]) ∧ ∃ n, w' = w.drewN n := by
    go_enter Tryz.func155, Tryz.ntmps155
    go_wp2_with (go_at_call 107; refine (Tryz.stringslite_Index_one _ _ _).mono ?_; rintro e w' ⟨rfl, rfl⟩)
    go_ret3
    exact ⟨rfl, 0, rfl⟩
  go_enter Tryz.func142, Tryz.ntmps142
  go_wp2_with (go_at_call 155; refine hc.mono ?_; rintro e w' ⟨rfl, n, rfl⟩)
  go_ret3
  exact ⟨rfl, _, rfl⟩
end Go.Proofs.YtkogafponpjdnaaGreatDoor

/- The bits of a net: masks as remainders; mask, bit. -/
namespace Go.Proofs.YtkogafponpjdnaaGreatDoor
open Go.RowKit

/-- The bits behind the first b of 32. -/
def restN (b : Nat) : Nat := 2 ^ (32 - b)
def maskN (b : Nat) : Nat := 4294967296 - restN b
theorem restN_pos (b : Nat) : 1 ≤ restN b := Nat.one_le_two_pow
theorem restN_le (b : Nat) : restN b ≤ 4294967296 := by
  unfold restN
  exact Nat.pow_le_pow_right (n := 2) (j := 32) (by decide) (by omega)
theorem maskN_lt (b : Nat) : maskN b < 4294967296 := by
  have := restN_pos b
  unfold maskN
  omega
theorem and_rest (x b : Nat) : x &&& (4294967295 - maskN b) = x % restN b := by
  have h := restN_le b
  have h1 := restN_pos b
  rw [show 4294967295 - maskN b = restN b - 1 by unfold maskN; omega]
  exact Nat.and_two_pow_sub_one_eq_mod x _
theorem and_mask (x b : Nat) (hx : x < 4294967296) (hb : b ≤ 32) : x &&& maskN b = x / restN b * restN b := by
  have e : maskN b = (2 ^ b - 1) * 2 ^ (32 - b) := by
    unfold maskN restN
    rw [Nat.sub_mul, ← Nat.pow_add, show b + (32 - b) = 32 by omega, Nat.one_mul]
  rw [e]
  unfold restN
  apply Nat.eq_of_testBit_eq
  intro i
  rw [Nat.testBit_and, Nat.testBit_mul_two_pow, Nat.testBit_mul_two_pow, Nat.testBit_two_pow_sub_one, Nat.testBit_div_two_pow]
  by_cases hi : 32 - b ≤ i
  · rw [show i - (32 - b) + (32 - b) = i by omega]
    by_cases h2 : i - (32 - b) < b
    · simp [hi, h2]
    · have : x.testBit i = false := Nat.testBit_lt_two_pow (Nat.lt_of_lt_of_le hx (Nat.pow_le_pow_right (n := 2) (i := 32) (by decide) (by omega)))
      simp [hi, h2, this]
  · simp [hi]

theorem mask_any (b : Nat) (hb : b ≤ 32) (w : World) : Calls Tryz.prog 69 #[.int .i64 b] w fun e w' => e = .returned (.int .u32 (maskN b)) ∧ w' = w := by
  go_enter Tryz.func69, Tryz.ntmps69
  go_wp2
  go_ret
  refine ⟨?_, rfl⟩
  have er : ((2 : Int) ^ (32 - b)) = (restN b : Int) := by unfold restN; simp
  have h1 := restN_pos b
  have h2 := restN_le b
  refine ret_int ?_
  rw [er]
  unfold maskN
  omega

theorem bit_any (ip i : Nat) (hip : ip < 4294967296) (hi : i ≤ 31) (w : World) : Calls Tryz.prog 55 #[.int .u32 ip, .int .i64 i] w fun e w' => e = .returned (.bool (ip / 2 ^ (31 - i) % 2 == 1)) ∧ w' = w := by
  go_enter Tryz.func55, Tryz.ntmps55
  go_wp2
  go_ret
  refine ⟨?_, rfl⟩
  have er : ((ip : Int) / 2 ^ (31 - i)) = ((ip / 2 ^ (31 - i) : Nat) : Int) := by simp
  have hl : ip / 2 ^ (31 - i) < 4294967296 := Nat.lt_of_le_of_lt (Nat.div_le_self _ _) hip
  refine ret_bool ?_
  rw [er, show (1 : Int) = ((1 : Nat) : Int) from rfl, u32_and_nat _ 1 hl (by decide), nat_mask1, Bool.eq_iff_iff]
  simp
  omega
end Go.Proofs.YtkogafponpjdnaaGreatDoor

/- A net's check: the code's and the document's. -/
namespace Go.Proofs.YtkogafponpjdnaaGreatDoor
open Go.RowKit

/-- A net, as a value. -/
abbrev netV (ip : Nat) (b lo hi : Int) : Value := .agg #[.int .u32 ip, .int .i64 b, .int .i64 lo, .int .i64 hi]
/-- What is wrong with a net: 0: nothing. -/
def faultOf (ip : Nat) (b lo hi : Int) : Nat := if b < 0 ∨ 32 < b ∨ lo < 0 ∨ 65535 < hi ∨ hi < lo then 1 else if ip % restN b.toNat = 0 then 0 else 3
def errV (n : Nat) : Value := if n = 0 then .nilIface else .iface 75 (.int .i64 n)

theorem acheck_any (ip : Nat) (hip : ip < 4294967296) (b lo hi : Int) (hb : -9223372036854775808 ≤ b ∧ b ≤ 9223372036854775807) (hl : -9223372036854775808 ≤ lo ∧ lo ≤ 9223372036854775807) (hh : -9223372036854775808 ≤ hi ∧ hi ≤ 9223372036854775807) (w : World) :
    Calls Tryz.prog 68 #[netV ip b lo hi] w fun e w' => e = .returned (errV (faultOf ip b lo hi)) ∧ Below w.heap.size w w' := by
  by_cases c0 : b < 0
  · have HF := hide (show errV (faultOf ip b lo hi) = .iface 75 (.int .i64 1) by unfold faultOf; rw [if_pos (by omega)]; rfl)
    have d0 : decide (b < 0) = true := decide_eq_true c0
    go_enter Tryz.func68, Tryz.ntmps68
    go_wp2
    go_ret
    refine ⟨by rw [HF.out]; rfl, ?_⟩
    first | exact (Below.refl _ _).alloc (Nat.le_refl _) _ | exact below_drewN' ((Below.refl _ _).alloc (Nat.le_refl _) _) _
  · have d0 : decide (b < 0) = false := decide_eq_false c0
    by_cases c1 : 32 < b
    · have HF := hide (show errV (faultOf ip b lo hi) = .iface 75 (.int .i64 1) by unfold faultOf; rw [if_pos (by omega)]; rfl)
      have d1 : decide ((32 : Int) < b) = true := decide_eq_true c1
      go_enter Tryz.func68, Tryz.ntmps68
      go_wp2
      go_ret
      refine ⟨by rw [HF.out]; rfl, ?_⟩
      first | exact (Below.refl _ _).alloc (Nat.le_refl _) _ | exact below_drewN' ((Below.refl _ _).alloc (Nat.le_refl _) _) _
    · have d1 : decide ((32 : Int) < b) = false := decide_eq_false c1
      by_cases c2 : lo < 0
      · have HF := hide (show errV (faultOf ip b lo hi) = .iface 75 (.int .i64 1) by unfold faultOf; rw [if_pos (by omega)]; rfl)
        have d2 : decide (lo < 0) = true := decide_eq_true c2
        go_enter Tryz.func68, Tryz.ntmps68
        go_wp2
        go_ret
        refine ⟨by rw [HF.out]; rfl, ?_⟩
        first | exact (Below.refl _ _).alloc (Nat.le_refl _) _ | exact below_drewN' ((Below.refl _ _).alloc (Nat.le_refl _) _) _
      · have d2 : decide (lo < 0) = false := decide_eq_false c2
        by_cases c3 : 65535 < hi
        · have HF := hide (show errV (faultOf ip b lo hi) = .iface 75 (.int .i64 1) by unfold faultOf; rw [if_pos (by omega)]; rfl)
          have d3 : decide ((65535 : Int) < hi) = true := decide_eq_true c3
          go_enter Tryz.func68, Tryz.ntmps68
          go_wp2
          go_ret
          refine ⟨by rw [HF.out]; rfl, ?_⟩
          first | exact (Below.refl _ _).alloc (Nat.le_refl _) _ | exact below_drewN' ((Below.refl _ _).alloc (Nat.le_refl _) _) _
        · have d3 : decide ((65535 : Int) < hi) = false := decide_eq_false c3
          by_cases c4 : hi < lo
          · have HF := hide (show errV (faultOf ip b lo hi) = .iface 75 (.int .i64 1) by unfold faultOf; rw [if_pos (by omega)]; rfl)
            have d4 : decide (hi < lo) = true := decide_eq_true c4
            go_enter Tryz.func68, Tryz.ntmps68
            go_wp2
            go_ret
            refine ⟨by rw [HF.out]; rfl, ?_⟩
            first | exact (Below.refl _ _).alloc (Nat.le_refl _) _ | exact below_drewN' ((Below.refl _ _).alloc (Nat.le_refl _) _) _
          · have d4 : decide (hi < lo) = false := decide_eq_false c4
            obtain ⟨k, rfl⟩ : ∃ k : Nat, b = k := ⟨b.toNat, by omega⟩
            have hk : k ≤ 32 := by omega
            have er : bits .andNot .u32 (ip : Int) (maskN k : Int) = ((ip % restN k : Nat) : Int) := by rw [u32_andNot_nat _ _ hip (maskN_lt k), and_rest]
            by_cases cr : ip % restN k = 0
            · have HF := hide (show errV (faultOf ip (k : Int) lo hi) = .nilIface by unfold faultOf; rw [if_neg (by omega), Int.toNat_natCast, if_pos cr]; rfl)
              have bn : (((ip % restN k : Nat) : Int) == 0) = true := by rw [beq_iff_eq]; omega
              clear cr
              go_enter Tryz.func68, Tryz.ntmps68
              go_wp2
              go_quiet ((go_at_call 69; first | exact Calls.quiet_of_same (mask_any k hk _) | exact quiet_same (mask_any k hk _)))
              go_wp2
              go_ret
              refine ⟨by rw [HF.out]; rfl, ?_⟩
              first | exact (Below.refl _ _).alloc (Nat.le_refl _) _ | exact below_drewN' ((Below.refl _ _).alloc (Nat.le_refl _) _) _
            · have HF := hide (show errV (faultOf ip (k : Int) lo hi) = .iface 75 (.int .i64 3) by unfold faultOf; rw [if_neg (by omega), Int.toNat_natCast, if_neg cr]; rfl)
              have bn : (((ip % restN k : Nat) : Int) == 0) = false := by rw [beq_eq_false_iff_ne]; omega
              clear cr
              go_enter Tryz.func68, Tryz.ntmps68
              go_wp2
              go_quiet ((go_at_call 69; first | exact Calls.quiet_of_same (mask_any k hk _) | exact quiet_same (mask_any k hk _)))
              go_wp2
              go_ret
              refine ⟨by rw [HF.out]; rfl, ?_⟩
              first | exact (Below.refl _ _).alloc (Nat.le_refl _) _ | exact below_drewN' ((Below.refl _ _).alloc (Nat.le_refl _) _) _
end Go.Proofs.YtkogafponpjdnaaGreatDoor

/- A net's text, and what it is read as. No walk in it. -/
namespace Go.Proofs.YtkogafponpjdnaaGreatDoor
open Go.RowKit

def signsL : List UInt8 := [46, 46, 46, 47, 58, 45]
def ipOf (a b c d : Nat) : Nat := ((a * 256 + b) * 256 + c) * 256 + d
def netNums (ip b lo hi : Nat) : List Nat := [ip / 16777216, ip / 65536 % 256, ip / 256 % 256, ip % 256, b, lo, hi]
def netText (ip b lo hi : Nat) : List UInt8 := joinN signsL (netNums ip b lo hi)

def parseR (s : List UInt8) : Option (Nat × Nat × Nat × Nat) := match splitN signsL s with
  | some [a, b, c, d, e, f, g] => if a ≤ 255 ∧ b ≤ 255 ∧ c ≤ 255 ∧ d ≤ 255 ∧ faultOf (ipOf a b c d) e f g = 0 then some (ipOf a b c d, e, f, g) else none
  | _ => none

theorem fault_ok {ip : Nat} {b lo hi : Int} (h : faultOf ip b lo hi = 0) : (0 ≤ b ∧ b ≤ 32) ∧ (0 ≤ lo ∧ lo ≤ hi ∧ hi ≤ 65535) ∧ ip % restN b.toNat = 0 := by
  unfold faultOf at h
  split at h
  · simp at h
  · split at h
    · rename_i h1 h2
      exact ⟨by omega, by omega, h2⟩
    · simp at h

theorem signs_no : ∀ c ∈ signsL, isDig c = false := by decide +kernel

theorem split_text {ip b lo hi : Nat} (hip : ip < 4294967296) (hf : faultOf ip b lo hi = 0) : splitN signsL (netText ip b lo hi) = some (netNums ip b lo hi) := by
  obtain ⟨h1, h2, _⟩ := fault_ok hf
  refine splitN_join signsL _ signs_no rfl fun n hn => ?_
  simp only [netNums, List.mem_cons, List.not_mem_nil, or_false] at hn
  omega

theorem ipOf_parts (ip : Nat) (hip : ip < 4294967296) : ipOf (ip / 16777216) (ip / 65536 % 256) (ip / 256 % 256) (ip % 256) = ip := by
  unfold ipOf
  omega

theorem parse_text {ip b lo hi : Nat} (hip : ip < 4294967296) (hf : faultOf ip b lo hi = 0) : parseR (netText ip b lo hi) = some (ip, b, lo, hi) := by
  unfold parseR
  rw [split_text hip hf]
  show (if _ then _ else _) = _
  rw [ipOf_parts ip hip, if_pos ⟨by omega, by omega, by omega, by omega, hf⟩]

theorem len7 {l : List Nat} (h : l.length = 7) : ∃ a b c d e f g, l = [a, b, c, d, e, f, g] := by
  match l, h with
  | [a, b, c, d, e, f, g], _ => exact ⟨a, b, c, d, e, f, g, rfl⟩

theorem ipOf_lt {a b c d : Nat} (ha : a ≤ 255) (hb : b ≤ 255) (hc : c ≤ 255) (hd : d ≤ 255) : ipOf a b c d < 4294967296 := by
  unfold ipOf
  omega

theorem nums_back {a b c d : Nat} (_ha : a ≤ 255) (hb : b ≤ 255) (hc : c ≤ 255) (hd : d ≤ 255) (e f g : Nat) : netNums (ipOf a b c d) e f g = [a, b, c, d, e, f, g] := by
  unfold netNums ipOf
  rw [show (((a * 256 + b) * 256 + c) * 256 + d) / 16777216 = a by omega, show (((a * 256 + b) * 256 + c) * 256 + d) / 65536 % 256 = b by omega, show (((a * 256 + b) * 256 + c) * 256 + d) / 256 % 256 = c by omega, show (((a * 256 + b) * 256 + c) * 256 + d) % 256 = d by omega]

theorem parse_some {s : List UInt8} {ip b lo hi : Nat} (h : parseR s = some (ip, b, lo, hi)) : ip < 4294967296 ∧ faultOf ip b lo hi = 0 ∧ s = netText ip b lo hi := by
  unfold parseR at h
  split at h
  · rename_i a b' c d e f g hs
    split at h
    · rename_i hc
      obtain ⟨h1, h2, h3, h4, h5⟩ := hc
      have h' := Option.some.inj h
      simp only [Prod.mk.injEq] at h'
      obtain ⟨rfl, rfl, rfl, rfl⟩ := h'
      refine ⟨ipOf_lt h1 h2 h3 h4, h5, ?_⟩
      obtain ⟨_, _, h6⟩ := splitN_some _ _ _ hs
      unfold netText
      rw [nums_back h1 h2 h3 h4]
      exact h6
    · cases h
  · cases h
end Go.Proofs.YtkogafponpjdnaaGreatDoor

/- How the document reads a net's text: numbers one behind the other, whatever signs between. No model in it. -/
namespace Go.Proofs.YtkogafponpjdnaaGreatDoor
open Go.RowKit

def figN (l : List UInt8) : Nat := if 20 < l.length ∨ l.all isDig = false then 0 else digVal 0 l % 18446744073709551616
def figOk (l : List UInt8) : Bool := if 20 < l.length ∨ l.all isDig = false then false else Lib.decDigits (figN l) == l
def fig70 (l : List UInt8) : Option Nat := if figOk l = true ∧ figN l ≤ 70000 then some (figN l) else none

theorem fig70_dec (n : Nat) (h : n ≤ 70000) : fig70 (Lib.decDigits n) = some n := by
  have h5 := nDigits_le5 n (by omega)
  have hc : ¬ (20 < (Lib.decDigits n).length ∨ (Lib.decDigits n).all isDig = false) := by
    rw [Lib.decDigits_length, dec_all]
    rintro (h | h)
    · omega
    · cases h
  have e : figN (Lib.decDigits n) = n := by
    unfold figN
    rw [if_neg hc, dec_val, Nat.mod_eq_of_lt (by omega)]
  unfold fig70 figOk
  rw [e, if_neg hc, if_pos ⟨by simp, h⟩]

def scanN : List UInt8 → List UInt8 → Nat → Option (List Nat)
  | cur, [], k => (fig70 cur).bind fun x => if k ≤ 6 then some [x] else none
  | cur, c :: r, k => if isDig c = true then scanN (cur ++ [c]) r k else (fig70 cur).bind fun x => if k ≤ 6 then (scanN [] r (k + 1)).map fun ns => x :: ns else none

theorem scanN_digits (k : Nat) (r : List UInt8) : ∀ (l cur : List UInt8), l.all isDig = true → scanN cur (l ++ r) k = scanN (cur ++ l) r k
  | [], cur, _ => by simp
  | c :: l, cur, h => by
    simp only [List.all_cons, Bool.and_eq_true] at h
    rw [List.cons_append, scanN, if_pos h.1, scanN_digits k r l (cur ++ [c]) h.2, List.append_assoc, List.singleton_append]

theorem scanN_join : ∀ (cs : List UInt8) (ns : List Nat) (k : Nat), (∀ c ∈ cs, isDig c = false) → ns.length = cs.length + 1 → (∀ n ∈ ns, n ≤ 70000) → k + cs.length ≤ 6 → scanN [] (joinN cs ns) k = some ns
  | [], [n], k, _, _, h, hk => by
    have h0 : scanN [] (Lib.decDigits n ++ []) k = some [n] := by
      rw [scanN_digits k [] _ [] (dec_all n), List.nil_append, scanN, fig70_dec n (h n (List.mem_cons_self ..)), Option.bind_some, if_pos (by simpa using hk)]
    rw [List.append_nil] at h0
    exact h0
  | c :: cs, n :: ns, k, hc, hl, h, hk => by
    show scanN [] (Lib.decDigits n ++ c :: joinN cs ns) k = _
    have hk' : k + cs.length + 1 ≤ 6 := by simpa [Nat.add_assoc] using hk
    rw [scanN_digits k _ _ [] (dec_all n), List.nil_append, scanN, if_neg (by rw [hc c (List.mem_cons_self ..)]; decide), fig70_dec n (h n (List.mem_cons_self ..)), Option.bind_some, if_pos (by omega),
      scanN_join cs ns (k + 1) (fun d hd => hc d (List.mem_cons_of_mem _ hd)) (by simpa using hl) (fun m hm => h m (List.mem_cons_of_mem _ hm)) (by omega)]
    rfl
  | [], [], _, _, hl, _, _ => by simp at hl
  | [], _ :: _ :: _, _, _, hl, _, _ => by simp at hl
  | _ :: _, [], _, _, hl, _, _ => by simp at hl

/-- A text that is read as a net is scanned as its numbers. -/
theorem scan_parse {s : List UInt8} {ip b lo hi : Nat} (h : parseR s = some (ip, b, lo, hi)) : scanN [] s 0 = some (netNums ip b lo hi) := by
  obtain ⟨hip, hf, rfl⟩ := parse_some h
  obtain ⟨h1, h2, _⟩ := fault_ok hf
  refine scanN_join signsL _ 0 signs_no rfl (fun n hn => ?_) (by decide)
  simp only [netNums, List.mem_cons, List.not_mem_nil, or_false] at hn
  omega

theorem parse_none_of {s : List UInt8} (h : ∀ ip b lo hi, parseR s = some (ip, b, lo, hi) → False) : parseR s = none := by
  cases hp : parseR s with
  | none => rfl
  | some x => exact absurd hp (fun e => h _ _ _ _ e)
end Go.Proofs.YtkogafponpjdnaaGreatDoor

/- Walks of the predicates on one byte, of strings.IndexByte and strings.HasPrefix. -/
namespace Go.Proofs.YtkogafponpjdnaaGreatDoor.Gl
open Go.RowKit

/-- 'isName', 'letter'. -/
def nameB (b : Int) : Bool := decide (97 ≤ b) && decide (b ≤ 122) || decide (65 ≤ b) && decide (b ≤ 90) || decide (48 ≤ b) && decide (b ≤ 57) || b == 46 || b == 95
/-- One of the five signs. -/
def signB (b : Int) : Bool := b == 42 || b == 63 || b == 91 || b == 93 || b == 92
def plainB (b : Int) : Bool := decide (33 ≤ b) && decide (b ≤ 126) && b != 34 && !signB b

theorem isName_any (b : Int) (w : World) : Calls Tryz.prog 149 #[.int .u8 b] w fun e w' => e = .returned (.bool (nameB b)) ∧ w' = w := by
  go_enter Tryz.func149, Tryz.ntmps149
  go_wp2
  all_goals
    go_ret
    exact ⟨ret_bool (by rw [Bool.eq_iff_iff]; simp [nameB]; try omega), rfl⟩

theorem letter_any (b : Int) (w : World) : Calls Tryz.prog 85 #[.int .u8 b] w fun e w' => e = .returned (.bool (nameB b)) ∧ w' = w := by
  go_enter Tryz.func85, Tryz.ntmps85
  go_wp2
  all_goals
    go_ret
    exact ⟨ret_bool (by rw [Bool.eq_iff_iff]; simp [nameB]; try omega), rfl⟩

theorem special_any (b : Int) (w : World) : Calls Tryz.prog 73 #[.int .u8 b] w fun e w' => e = .returned (.bool (signB b)) ∧ w' = w := by
  go_enter Tryz.func73, Tryz.ntmps73
  go_wp2
  all_goals
    go_ret
    exact ⟨ret_bool (by rw [Bool.eq_iff_iff]; simp [signB]; try omega), rfl⟩

set_option maxRecDepth 100000 in
theorem lite_IndexByte (s : ByteArray) (c : Int) (w : World) :
    Calls Tryz.prog 129 #[.string s, .int .u8 c] w fun e w' => e = .returned (.int .i64 (Lib.indexByte s.data.toList c.toNat.toUInt8)) ∧ w' = w := by
  go_enter Tryz.func129, Tryz.ntmps129
  go_wp2
  rw [run_callFunc_extern Tryz.func150 (by kernel_rfl) (by kernel_rfl) (by kernel_rfl) (e := Extern.BytealgIndexByte.indexByte) (by kernel_rfl), Lib.run_indexByteString]
  simp only [Result.andThen]
  rw [Oper.upon_value]
  go_wp2
  go_ret
  exact ⟨rfl, rfl⟩

theorem strings_IndexByte (s : ByteArray) (c : Int) (w : World) :
    Calls Tryz.prog 127 #[.string s, .int .u8 c] w fun e w' => e = .returned (.int .i64 (Lib.indexByte s.data.toList c.toNat.toUInt8)) ∧ w' = w := by
  go_enter Tryz.func127, Tryz.ntmps127
  go_wp2_with (go_at_call 129; refine (lite_IndexByte _ _ _).mono ?_; rintro e w' ⟨rfl, rfl⟩)
  go_ret
  exact ⟨rfl, rfl⟩

/-- Is a byte among the five signs? As Go asks it. -/
theorem signs_index (c : Nat) (hc : c < 256) : decide (Lib.indexByte [42, 63, 91, 93, 92] (UInt8.ofNat c) < 0) = !signB c := by
  have h : ∀ c : Fin 256, decide (Lib.indexByte [42, 63, 91, 93, 92] (UInt8.ofNat c.val) < 0) = !signB c.val := by decide +kernel
  exact h ⟨c, hc⟩

theorem isPlain_any (b : Nat) (hb : b < 256) (w : World) : Calls Tryz.prog 103 #[.int .u8 b] w fun e w' => e = .returned (.bool (plainB b)) ∧ w' = w := by
  have hs := signs_index b hb
  have Hs := hide hs
  clear hs
  go_enter Tryz.func103, Tryz.ntmps103
  go_wp2_with (go_at_call 127; refine (strings_IndexByte _ _ _).mono ?_; rintro e w' ⟨rfl, rfl⟩)
  · go_ret
    exact ⟨ret_bool (by rw [Bool.eq_iff_iff]; simp [plainB]; omega), rfl⟩
  · go_ret
    exact ⟨ret_bool (by rw [Hs.out]; rw [Bool.eq_iff_iff]; simp [plainB]; omega), rfl⟩
  · go_ret
    exact ⟨ret_bool (by rw [Bool.eq_iff_iff]; simp [plainB]; omega), rfl⟩
  · go_ret
    exact ⟨ret_bool (by rw [Bool.eq_iff_iff]; simp [plainB]; omega), rfl⟩

theorem lite_HasPrefix (s p : ByteArray) (w : World) :
    Calls Tryz.prog 125 #[.string s, .string p] w fun e w' => e = .returned (.bool (Lib.hasPrefix s.data.toList p.data.toList)) ∧ w' = w := by
  rw [← Lib.hasPrefix_of_take, ← Lib.size_eq, ← Lib.size_eq]
  go_enter Tryz.func125, Tryz.ntmps125
  go_wp2
  · rename_i h
    go_ret
    refine ⟨?_, rfl⟩
    show Ending.returned (Value.bool ((s.extract 0 p.size).toList == p.toList)) = _
    rw [Lib.extract_toList, Lib.toList_data]
    simp [h]
  · rename_i h
    go_ret
    refine ⟨?_, rfl⟩
    show Ending.returned (Value.bool false) = _
    simp [h]

theorem strings_HasPrefix (s p : ByteArray) (w : World) :
    Calls Tryz.prog 98 #[.string s, .string p] w fun e w' => e = .returned (.bool (Lib.hasPrefix s.data.toList p.data.toList)) ∧ w' = w := by
  go_enter Tryz.func98, Tryz.ntmps98
  go_wp2_with (go_at_call 125; refine (lite_HasPrefix _ _ _).mono ?_; rintro e w' ⟨rfl, rfl⟩)
  go_ret
  exact ⟨rfl, rfl⟩
end Go.Proofs.YtkogafponpjdnaaGreatDoor.Gl

/- Arrays of bools said by a function, for the walks of package glob: no array is ever written out. -/
namespace Go.Proofs.YtkogafponpjdnaaGreatDoor.Gl
open Go.RowKit

/-- n bools, said by a function, as the kernel reckons them. -/
def LA0 (n : Nat) (f : Nat → Bool) : Array Value := Array.ofFn (n := n) fun i => .bool (f i)
/-- The same bools, kept shut: no walk looks into them. -/
def LA (n : Nat) (f : Nat → Bool) : Array Value := if h : n = 0 then #[] else (LA (n - 1) f).push (.bool (f (n - 1)))
theorem LA_eq (n : Nat) (f : Nat → Bool) : LA n f = LA0 n f := by
  induction n with
  | zero => rw [LA]; simp [LA0]
  | succ n ih =>
    rw [LA]
    simp only [Nat.add_one_ne_zero, dite_false, Nat.add_sub_cancel, ih]
    apply Array.ext_getElem?
    intro i
    rw [Array.getElem?_push]
    have hz : (LA0 n f).size = n := by simp [LA0]
    rw [hz]
    by_cases hi : i = n
    · subst hi; simp [LA0]
    · rw [if_neg hi]
      by_cases hl : i < n
      · simp [LA0, hl, show i < n + 1 by omega]
      · simp [LA0, hl, show ¬ i < n + 1 by omega]
/-- A part of a pattern: 256 bools and one. -/
def PF (f : Nat → Bool) (m : Bool) : Nat → Bool := fun i => if i = 256 then m else f i
def upd (f : Nat → Bool) (i : Nat) (b : Bool) : Nat → Bool := fun j => if j = i then b else f j

theorem LA_size (n : Nat) (f : Nat → Bool) : (LA n f).size = n := by rw [LA_eq]; simp [LA0]
theorem LA_get (n : Nat) (f : Nat → Bool) (i : Nat) (h : i < n) : (LA n f)[i]? = some (.bool (f i)) := by rw [LA_eq]; simp [LA0, h]
theorem LA_set (n : Nat) (f : Nat → Bool) (i : Nat) (b : Bool) : (LA n f).setIfInBounds i (.bool b) = LA n (upd f i b) := by
  apply Array.ext_getElem?
  intro j
  rw [Array.getElem?_setIfInBounds]
  by_cases hj : j < n
  · rw [LA_get n f j hj, LA_get n _ j hj, LA_size]
    by_cases h : i = j
    · subst h; simp [upd, hj]
    · have h' : ¬ j = i := fun e => h e.symm
      simp [h, h', upd]
  · have e1 : (LA n f)[j]? = none := by simp [LA_size]; omega
    have e2 : (LA n (upd f i b))[j]? = none := by simp [LA_size]; omega
    rw [e1, e2, LA_size]
    by_cases h : i = j
    · subst h; simp [hj]
    · simp [h]
theorem LA_one (n : Nat) (f : Nat → Bool) : (LA n f).all (·.oneCell') = true := by
  rw [LA_eq, Array.all_eq_true]
  intro i h
  simp [LA0, Value.oneCell']
theorem LA_congr (n : Nat) (f g : Nat → Bool) (h : ∀ i, i < n → f i = g i) : LA n f = LA n g := by
  rw [LA_eq, LA_eq]
  apply Array.ext
  · simp [LA0]
  · intro i h1 h2
    simp only [LA0, Array.size_ofFn] at h1
    simp [LA0, h i h1]

theorem below_setRow {B : Nat} {a w : World} (h : Below B a w) {g : Nat} (hg : B ≤ g) (cs : Array Value) : Below B a (w.setRow g cs) :=
  ⟨h.os, h.tape, h.output, by simpa using h.size, fun k hk => (setRow_other w g k cs (by omega)).trans (h.block k hk)⟩

/-- A type's zero value, n bools. -/
theorem run_zero_LA {P : Program} {t : TypeId} {n : Nat} (h : (P.info? t).map (·.zero) = some (some (.agg (LA n fun _ => false)))) (w : World) :
    (zeroValue t).run P w = .ok (.agg (LA n fun _ => false)) w := by
  cases hq : P.info? t with
  | none => simp [hq] at h
  | some i =>
    simp [hq] at h
    simp [zeroValue, typeInfo, hq, h]

theorem zero_like : (Tryz.prog.info? 147).map (·.zero) = some (some (.agg (LA 256 fun _ => false))) := by rw [LA_eq]; kernel_rfl
theorem zero_part : (Tryz.prog.info? 149).map (·.zero) = some (some (.agg (LA 257 fun _ => false))) := by rw [LA_eq]; kernel_rfl
theorem zero_places : (Tryz.prog.info? 130).map (·.zero) = some (some (.agg (LA 25 fun _ => false))) := by rw [LA_eq]; kernel_rfl
theorem size_like : (Tryz.prog.info? 147).map (·.size) = some 256 := by kernel_rfl
theorem size_part : (Tryz.prog.info? 149).map (·.size) = some 257 := by kernel_rfl
theorem size_places : (Tryz.prog.info? 130).map (·.size) = some 25 := by kernel_rfl
theorem zv_like (w : World) : (zeroValue 147).run Tryz.prog w = .ok (.agg (LA 256 fun _ => false)) w := run_zero_LA zero_like w
theorem zv_part (w : World) : (zeroValue 149).run Tryz.prog w = .ok (.agg (LA 257 fun _ => false)) w := run_zero_LA zero_part w
theorem zv_places (w : World) : (zeroValue 130).run Tryz.prog w = .ok (.agg (LA 25 fun _ => false)) w := run_zero_LA zero_places w

theorem build_like (w : World) : (Instr.build 147 #[]).run Tryz.prog w = .ok (.agg (LA 256 fun _ => false)) w := by rw [LA_eq]; kernel_rfl
theorem build_part0 (w : World) : (Instr.build 149 #[]).run Tryz.prog w = .ok (.agg (LA 257 fun _ => false)) w := by rw [LA_eq]; kernel_rfl
theorem build_places (w : World) : (Instr.build 130 #[(0, .bool true)]).run Tryz.prog w = .ok (.agg (LA 25 fun i => i == 0)) w := by rw [LA_eq]; kernel_rfl
theorem build_part2 (f : Nat → Bool) (m : Bool) (w : World) : (Instr.build 149 #[(0, .agg (LA 256 f)), (1, .bool m)]).run Tryz.prog w = .ok (.agg (LA 257 (PF f m))) w := by rw [LA_eq, LA_eq]; kernel_rfl
theorem build_part1 (f : Nat → Bool) (w : World) : (Instr.build 149 #[(0, .agg (LA 256 f))]).run Tryz.prog w = .ok (.agg (LA 257 (PF f false))) w := by rw [LA_eq, LA_eq]; kernel_rfl
end Go.Proofs.YtkogafponpjdnaaGreatDoor.Gl

/- Whole arrays of bools read, laid and handed back. -/
namespace Go.Proofs.YtkogafponpjdnaaGreatDoor.Gl
open Go.RowKit

/-- A whole array of bools read out of its block. -/
theorem wpList_load_LA {P : Program} {ops : Array Oper} {rest : List Oper} {o : Oper} {a : Act} {w : World} {Q : Exit → Act → World → Prop} (t : TypeId) (n k : Nat) (e : TypeId) (hgd : o.guard = none) (x : Operand) (ho : o.op = .load t x)
    (g : Nat) (hx : a.eval x = .pointer (some ⟨g, 0, none⟩)) (hu : P.underlying t = some (.array k e)) (hi : (P.info? t).map (·.size) = some n) (f : Nat → Bool) (t' : TypeId) (hg : w.heap[g]? = some (.cells (LA n f) t' (0, 0)))
    (h : wpList P ops Q rest (a.put o.dst (.agg (LA n f))) w) : wpList P ops Q (o :: rest) a w :=
  wpList_load_row hgd t x ho g hx t' (LA n f) (0, 0) _ hg hu rfl (by rw [LA_size]; exact hi) h

/-- A whole array of bools laid into a block that holds as many. -/
theorem wpList_store_LA {P : Program} {ops : Array Oper} {rest : List Oper} {o : Oper} {a : Act} {w : World} {Q : Exit → Act → World → Prop} (t : TypeId) (n : Nat) (hgd : o.guard = none) (x y : Operand) (ho : o.op = .store t x y)
    (g : Nat) (hx : a.eval x = .pointer (some ⟨g, 0, none⟩)) (f : Nat → Bool) (hy : a.eval y = .agg (LA n f)) (hi : (P.info? t).map (·.size) = some n) (f' : Nat → Bool) (t' : TypeId) (hg : w.heap[g]? = some (.cells (LA n f') t' (0, 0)))
    (h : wpList P ops Q rest (a.put o.dst undef) (w.setRow g (LA n f))) : wpList P ops Q (o :: rest) a w :=
  wpList_store_row hgd t x y ho g (LA n f) hx hy t' (LA n f') hg (by rw [LA_size]; exact hi) (by rw [LA_size, LA_size]) (LA_one _ _) h

/-- The result that lies in a block of bools. -/
theorem results_LA {P : Program} {fn : Func} {p : Tmp} {t : TypeId} (n k : Nat) (e : TypeId) (h : fn.results = #[.cell p t]) (tmps : Array Value) (w : World) (g : Nat) (f : Nat → Bool) (t' : TypeId)
    (hp : tmps.getD p undef = .pointer (some ⟨g, 0, none⟩)) (hg : w.heap[g]? = some (.cells (LA n f) t' (0, 0)))
    (hu : P.underlying t = some (.array k e)) (hi : (P.info? t).map (·.size) = some n) :
    (results fn tmps).run P w = .ok (.agg (LA n f)) w :=
  results_cell_row h tmps w g t' (LA n f) (0, 0) _ hp hg hu rfl (by rw [LA_size]; exact hi)

theorem heap_setRow_same {w : World} {g : Nat} {cs : Array Value} {t : TypeId} (cs' : Array Value) (h : w.heap[g]? = some (.cells cs t (0, 0))) : (w.setRow g cs').heap[g]? = some (.cells cs' t (0, 0)) := setRow_heap w g cs cs' t (0, 0) h
theorem LA_at (n : Nat) (f : Nat → Bool) (i : Nat) (h : i < (LA n f).size) : (LA n f)[i] = .bool (f i) := by
  have := LA_get n f i (by rw [LA_size] at h; exact h)
  rw [Array.getElem?_eq_getElem h] at this
  exact Option.some.inj this
end Go.Proofs.YtkogafponpjdnaaGreatDoor.Gl

/- Walks of glob.only and glob.others. -/
namespace Go.Proofs.YtkogafponpjdnaaGreatDoor.Gl
open Go.RowKit
attribute [local go_sem] LA_set LA_get LA_size LA_at

set_option maxRecDepth 10000 in
theorem only_any (b : Nat) (hb : b < 256) (w : World) :
    Calls Tryz.prog 100 #[.int .u8 b] w fun e w' => e = .returned (.agg (LA 256 (upd (fun _ => false) b true))) ∧ Below w.heap.size w w' := by
  have ha := zv_like
  go_enter Tryz.func100, Tryz.ntmps100
  go_wp2_with (first
    | (refine wpList_load_LA 147 256 256 4 rfl _ rfl ?g ?hx Tryz.underlying147 size_like (upd (fun _ => false) b true) 147 ?hg ?h; (case g => exact w.heap.size + 1); (case hx => rfl); (case hg => with_reducible exact heap_alloc2_new _ _ _))
    | (refine wpList_store_LA 147 256 rfl _ _ rfl ?g2 ?hx2 (upd (fun _ => false) b true) ?hy2 size_like (fun _ => false) 147 ?hg2 ?h2; (case g2 => exact w.heap.size); (case hx2 => rfl); (case hy2 => rfl); (case hg2 => with_reducible exact heap_alloc2_old _ _ _))
    | (refine bodyPost_ret (results_LA 256 256 4 rfl _ _ w.heap.size _ 147 rfl (heap_setRow_same _ (heap_alloc2_old _ _ _)) Tryz.underlying147 size_like) rfl ⟨rfl, ?hb⟩; exact below_setRow (((Below.refl _ _).alloc (Nat.le_refl _) _).alloc (by simp) _) (Nat.le_refl _) _))

/-- What the rounds of 'others' have turned so far. -/
def turned (f : Nat → Bool) (k : Nat) : Nat → Bool := fun i => if i < k then !f i else f i
theorem turned_zero (f : Nat → Bool) : turned f 0 = f := by funext i; simp [turned]
theorem turned_succ (f : Nat → Bool) (k : Nat) : upd (turned f k) k (!f k) = turned f (k + 1) := by
  funext i
  simp only [upd, turned]
  by_cases h : i = k
  · subst h; simp
  · by_cases h2 : i < k
    · simp [h, h2, show i < k + 1 by omega]
    · simp [h, h2, show ¬ i < k + 1 by omega]
theorem turned_all (f : Nat → Bool) : LA 256 (turned f 256) = LA 256 fun i => !f i := LA_congr _ _ _ fun i h => by simp [turned, h]

set_option maxRecDepth 10000 in
theorem others_any (f : Nat → Bool) (w : World) :
    Calls Tryz.prog 99 #[.agg (LA 256 f)] w fun e w' => e = .returned (.agg (LA 256 fun i => !f i)) ∧ Below w.heap.size w w' := by
  have ha := zv_like
  go_enter Tryz.func99, Tryz.ntmps99
  go_wp2_with fail
  go_loopw [4] (fun i w' => ∃ k : Nat, k ≤ 256 ∧ i = .int .i64 k ∧ w' = (w.alloc (.cells (LA 256 (turned f k)) 147)).alloc (.cells (LA 256 fun _ => false) 147)) (fun i _ => 256 - (intOf i).toNat)
  case atStart => exact ⟨0, by omega, rfl, by rw [turned_zero]⟩
  case round =>
    obtain ⟨k, hk, rfl, rfl⟩ := hrel
    by_cases hlt : k < 256
    · have hf : turned f k k = f k := by simp [turned]
      go_wp2_with fail
      go_roundw
      case rel => exact ⟨k + 1, by omega, by go_num, by rw [turned_succ]⟩
      case measure => simp [intOf]; omega
    · have e : k = 256 := by omega
      have He := hide e
      clear e
      go_wp2_with (first
        | (refine wpList_load_LA 147 256 256 4 rfl _ rfl ?g ?hx Tryz.underlying147 size_like (turned f k) 147 ?hg ?h; (case g => exact w.heap.size); (case hx => rfl); (case hg => with_reducible exact heap_alloc2_old _ _ _))
        | (refine wpList_store_LA 147 256 rfl _ _ rfl ?g2 ?hx2 (turned f k) ?hy2 size_like (fun _ => false) 147 ?hg2 ?h2; (case g2 => exact w.heap.size + 1); (case hx2 => rfl); (case hy2 => rfl); (case hg2 => with_reducible exact heap_alloc2_new _ _ _))
        | (refine bodyPost_ret (results_LA 256 256 4 rfl _ _ (w.heap.size + 1) _ 147 rfl (heap_setRow_same _ (heap_alloc2_new _ _ _)) Tryz.underlying147 size_like) rfl ⟨?he, ?hb⟩; (case he => rw [He.out, turned_all]); (case hb => exact below_setRow (((Below.refl _ _).alloc (Nat.le_refl _) _).alloc (by simp) _) (by omega) _)))
end Go.Proofs.YtkogafponpjdnaaGreatDoor.Gl

/- Walks of glob.member and glob.escaped. -/
namespace Go.Proofs.YtkogafponpjdnaaGreatDoor.Gl
open Go.RowKit

/-- The byte at a place; nought behind the end. -/
def byteAt (s : ByteArray) (i : Nat) : Nat := (s.data.toList.getD i 0).toNat
theorem byteAt_lt (s : ByteArray) (i : Nat) : byteAt s i < 256 := (s.data.toList.getD i 0).toNat_lt
theorem byteAt_eq (s : ByteArray) (i : Nat) (h : i < s.size) : s[i].toNat = byteAt s i := by
  unfold byteAt
  rw [List.getD_eq_getElem?_getD, List.getElem?_eq_getElem (by rw [← Lib.size_eq]; exact h)]
  rfl

def memberN (n b0 b1 b2 : Nat) : Nat :=
  if nameB b0 = true then (if n < 2 then 1 else if b1 = 45 then (if n < 3 then 0 else if nameB b2 = true then (if b2 < b0 then 0 else 3) else 0) else 1) else 0

set_option maxHeartbeats 400000 in
theorem member_any (s : ByteArray) (hs : 0 < s.size) (hz : s.size ≤ 1000) (w : World) :
    Calls Tryz.prog 126 #[.string s] w fun e w' => e = .returned (.int .i64 (memberN s.size (byteAt s 0) (byteAt s 1) (byteAt s 2))) ∧ ∃ n, w' = w.drewN n := by
  have e0 := byteAt_eq s 0 hs
  unfold memberN
  by_cases n0 : nameB (byteAt s 0) = true
  · rw [if_pos n0]
    by_cases h2 : s.size < 2
    · rw [if_pos h2]
      go_enter Tryz.func126, Tryz.ntmps126
      go_wp2_with (go_at_call 149; refine (isName_any _ _).mono ?_; rintro e w' ⟨rfl, rfl⟩)
      go_ret
      exact ⟨rfl, 0, rfl⟩
    · rw [if_neg h2]
      have e1 := byteAt_eq s 1 (by omega)
      by_cases h1 : byteAt s 1 = 45
      · rw [if_pos h1]
        have b1 : (((byteAt s 1 : Nat) : Int) != 45) = false := by simp [h1]
        have H1 := hide h1
        clear h1
        by_cases h3 : s.size < 3
        · rw [if_pos h3]
          have d3 : decide ((s.size : Int) < 3) = true := by simp; omega
          go_enter Tryz.func126, Tryz.ntmps126
          go_wp2_with (go_at_call 149; refine (isName_any _ _).mono ?_; rintro e w' ⟨rfl, rfl⟩)
          go_quiet (fail)
          go_wp2
          go_ret
          exact ⟨rfl, _, rfl⟩
        · rw [if_neg h3]
          have e2 := byteAt_eq s 2 (by omega)
          have d3 : decide ((s.size : Int) < 3) = false := by simp; omega
          by_cases n2 : nameB (byteAt s 2) = true
          · rw [if_pos n2]
            by_cases hlt : byteAt s 2 < byteAt s 0
            · rw [if_pos hlt]
              have dl : decide ((byteAt s 2 : Int) < (byteAt s 0 : Int)) = true := by simp; omega
              go_enter Tryz.func126, Tryz.ntmps126
              go_wp2_with (go_at_call 149; refine (isName_any _ _).mono ?_; rintro e w' ⟨rfl, rfl⟩)
              go_quiet ((go_at_call 149; exact Calls.quiet_of_same (isName_any _ _)))
              go_wp2
              go_ret
              exact ⟨rfl, _, rfl⟩
            · rw [if_neg hlt]
              have dl : decide ((byteAt s 2 : Int) < (byteAt s 0 : Int)) = false := by simp; omega
              go_enter Tryz.func126, Tryz.ntmps126
              go_wp2_with (go_at_call 149; refine (isName_any _ _).mono ?_; rintro e w' ⟨rfl, rfl⟩)
              go_quiet ((go_at_call 149; exact Calls.quiet_of_same (isName_any _ _)))
              go_wp2
              go_ret
              exact ⟨rfl, _, rfl⟩
          · rw [if_neg n2]
            have n2' : nameB (byteAt s 2) = false := by simpa using n2
            clear n2
            go_enter Tryz.func126, Tryz.ntmps126
            go_wp2_with (go_at_call 149; refine (isName_any _ _).mono ?_; rintro e w' ⟨rfl, rfl⟩)
            go_quiet ((go_at_call 149; exact Calls.quiet_of_same (isName_any _ _)))
            go_wp2
            go_ret
            exact ⟨rfl, _, rfl⟩
      · rw [if_neg h1]
        have b1 : (((byteAt s 1 : Nat) : Int) != 45) = true := by rw [bne_iff_ne]; omega
        go_enter Tryz.func126, Tryz.ntmps126
        go_wp2_with (go_at_call 149; refine (isName_any _ _).mono ?_; rintro e w' ⟨rfl, rfl⟩)
        go_ret
        exact ⟨rfl, 0, rfl⟩
  · rw [if_neg n0]
    have n0' : nameB (byteAt s 0) = false := by simpa using n0
    clear n0
    go_enter Tryz.func126, Tryz.ntmps126
    go_wp2_with (go_at_call 149; refine (isName_any _ _).mono ?_; rintro e w' ⟨rfl, rfl⟩)
    go_ret
    exact ⟨rfl, 0, rfl⟩
end Go.Proofs.YtkogafponpjdnaaGreatDoor.Gl
