/- The library's contracts that this seat's walks lean on, laid at its program. -/
import Derived.Shelf.Strings.Builder1
import Derived.Shelf.Strings.Builder2
import Derived.Shelf.Strings.OnBuilder
import Derived.Shelf.Strings.Trim
import Derived.Shelf.Small.Utf8
import Derived.Shelf.Small.Strs
import Derived.Shelf.Small.Wraps
import Derived.Shelf.LaysM
import Derived.Shelf.Strconv.Itoa3
import Derived.Shelf.Strconv.Clone
import Derived.Ground.MpProg
import Derived.Shelf.Pu.ParseUintPublic10
import Derived.Shelf.Pu.ErrVarParseUint
import Derived.Shelf.Strings.Search2
import Derived.Shelf.Strings.Search3
import Derived.Shelf.Strings.Count
import Derived.Shelf.Strings.Shaped
import Derived.Shelf.Strings.Prefix
import Derived.Shelf.Strings.Split
import Derived.Shelf.Strings.SplitShaped
import Derived.Shelf.Strings.Runes
import Derived.Shelf.Strings.AsciiSet
import Derived.Shelf.Unicode.DecodeSlow
import Derived.Test.YtefdakbahplnbaaGreatDoorProg
import Derived.Test.YtefdakbahplnbaaGreatDoorK4
import Derived.Test.YtefdakbahplnbaaGreatDoorK3
import Derived.Deep.RegionWith
open Go.Proofs.Tryz
open Array renaming getElem?_eq_some_iff->bM
open Go renaming Calls->ap,Value->ag,World->ac,cell_of_row->aT,frozen_of_row->cy,heap_alloc_new->a7,heap_alloc_old->AU,run_convert_bytes_back->xh,setCell_eq_setRow->cJ
open Go.Ending renaming returned->aq
open Go.IntKind renaming i64->R,u64->ah,u8->aM,wrap_u64->jQ
open Go.Lib renaming countB->FD,decDigits->aQ,hasSuffix->N1,indexByte->kg,join->vy,parseUintB->tM,size_eq->dy,trimSuffix->AN
open Go.Proofs.Tryz renaming prog->ae
open Go.Result renaming andThen_ok->tW
open Go.RowKit.Below renaming refl->aS
open Go.Shelf renaming Ren->rp
open Go.Value renaming iface->b8,int->I,pointer->av,slice->ak,string->ad,tuple->az
open Int renaming toNat_natCast->d_
open List renaming getD_eq_getElem?_getD->cI,getElem?_eq_getElem->cq,getElem?_eq_none->C1,getElem_mem->vH,length_append->cl,length_map->oB,mem_append->jC,mem_cons->kh,mem_cons_of_mem->vA,mem_cons_self->tP,mem_singleton->jB,nil_append->vz,not_mem_nil->xc,take_of_length_le->li,take_zero->CZ
open Nat renaming le_refl->aA,lt_or_ge->FN,mod_eq_of_lt->jg,mod_lt->vD
open Option renaming bind_eq_some_iff->acp,bind_some->y9,getD_some->vE,map_eq_some_iff->qh,none->ab,some->U
open Option.some renaming inj->dG
open UInt8 renaming ofNat->bB,toNat->tO,toNat_ofNat'->mT
namespace Go.Proofs
open Go.Shelf
def Tryz.XS:rp:=⟨fun|156=>108|165=>149|166=>150|169=>151|240=>197|241=>198|276=>235|277=>236|n=>n,fun|31=>22|9=>9|3=>3|4=>4|0=>0|20=>20|72=>236|76=>237|70=>234|37=>134|75=>25|127=>283|164=>315|5=>5|80=>144|n=>n,fun|n=>n⟩
theorem Tryz.agt:Go.Proofs.Lays.n156 ae Tryz.XS:={mixed:=by kernel_rfl,f156:=Tryz.func108.trans (congrArg U (by kernel_rfl)),f165:=Tryz.func149.trans (congrArg U (by kernel_rfl)),f166:=Tryz.func150.trans (congrArg U (by kernel_rfl)),f169:=Tryz.func151.trans (congrArg U (by kernel_rfl)),f240:=Tryz.func197.trans (congrArg U (by kernel_rfl)),f241:=Tryz.func198.trans (congrArg U (by kernel_rfl)),f276:=Tryz.func235.trans (congrArg U (by kernel_rfl)),f277:=Tryz.func236.trans (congrArg U (by kernel_rfl)),t0:=underlying0,a0:=isAgg0,z0:=sizeOf0,v0:=zeroValue0,t3:=underlying3,a3:=isAgg3,z3:=sizeOf3,v3:=zeroValue3,t4:=underlying4,a4:=isAgg4,z4:=sizeOf4,v4:=zeroValue4,t9:=underlying9,a9:=isAgg9,z9:=sizeOf9,v9:=zeroValue9,t20:=underlying20,a20:=isAgg20,z20:=sizeOf20,v20:=zeroValue20,t31:=underlying22,a31:=isAgg22,z31:=sizeOf22,v31:=zeroValue22,t37:=underlying134,a37:=isAgg134,z37:=sizeOf134,v37:=zeroValue134,t70:=underlying234,a70:=isAgg234,z70:=sizeOf234,v70:=zeroValue234,t72:=underlying236,a72:=isAgg236,z72:=sizeOf236,v72:=zeroValue236,t75:=underlying25,a75:=isAgg25,z75:=sizeOf25,v75:=zeroValue25,t76:=underlying237,a76:=isAgg237,z76:=sizeOf237,v76:=zeroValue237,t127:=underlying283,a127:=isAgg283,z127:=sizeOf283,v127:=zeroValue283,t164:=underlying315,a164:=isAgg315,z164:=sizeOf315,v164:=zeroValue315}
theorem Tryz.akY:Builder.Extra ae Tryz.XS:={sizeBuilder:=by kernel_rfl,liesBuilder:=by kernel_rfl,t5:=underlying5,a5:=isAgg5,z5:=sizeOf5,v5:=zeroValue5,infoByte:=by kernel_rfl,cellsByte:=by kernel_rfl,sizeByte:=by kernel_rfl,neB5:=by decide}
open Go.RowKit in theorem Tryz.strings_Join(mK o c:Nat)(xs:List ByteArray)(gt:ByteArray)(w:ac)(ac5:∀(j:Nat)x,xs[j]?=U x->w.cell? ⟨mK,o+j,ab⟩=U (ad x))(hbk:mK<w.heap.size)(hN:xs.length<=140737488355328)(su:xs.length<=c)(cY:(vy (xs.map (·.data.toList)) gt.data.toList).length<=140737488355328):ap ae 108 #[ak (U ⟨mK,o,ab⟩) xs.length c,ad gt] w fun e w'=>e=aq (ad ⟨(vy (xs.map (·.data.toList)) gt.data.toList).toArray⟩)/\Below w.heap.size w w':=Any.strings_Join Tryz.agt Tryz.akY mK o c xs gt w ac5 hbk hN su cY
def Tryz.adX:rp:=⟨fun|160=>128|232=>166|231=>165|227=>167|234=>169|233=>168|236=>171|235=>170|228=>211|271=>213|151=>212|197=>159|120=>240|152=>239|260=>201|137=>136|119=>257|224=>203|225=>202|217=>178|266=>219|n=>n,fun|9=>9|4=>4|3=>3|5=>5|117=>251|116=>250|0=>0|124=>254|21=>21|105=>245|46=>227|119=>318|139=>321|138=>320|n=>n,fun|3=>3|4=>4|n=>n⟩
theorem Tryz.agA:Go.Proofs.Lays.n160 ae Tryz.adX:={mixed:=by kernel_rfl,f119:=Tryz.func257.trans (congrArg U (by kernel_rfl)),f120:=Tryz.func240.trans (congrArg U (by kernel_rfl)),f137:=Tryz.func136.trans (congrArg U (by kernel_rfl)),f151:=Tryz.func212.trans (congrArg U (by kernel_rfl)),f152:=Tryz.func239.trans (congrArg U (by kernel_rfl)),f160:=Tryz.func128.trans (congrArg U (by kernel_rfl)),f197:=Tryz.func159.trans (congrArg U (by kernel_rfl)),f217:=Tryz.func178.trans (congrArg U (by kernel_rfl)),f224:=Tryz.func203.trans (congrArg U (by kernel_rfl)),f225:=Tryz.func202.trans (congrArg U (by kernel_rfl)),f227:=Tryz.func167.trans (congrArg U (by kernel_rfl)),f228:=Tryz.func211.trans (congrArg U (by kernel_rfl)),f231:=Tryz.func165.trans (congrArg U (by kernel_rfl)),f232:=Tryz.func166.trans (congrArg U (by kernel_rfl)),f233:=Tryz.func168.trans (congrArg U (by kernel_rfl)),f234:=Tryz.func169.trans (congrArg U (by kernel_rfl)),f235:=Tryz.func170.trans (congrArg U (by kernel_rfl)),f236:=Tryz.func171.trans (congrArg U (by kernel_rfl)),f260:=Tryz.func201.trans (congrArg U (by kernel_rfl)),f266:=Tryz.func219.trans (congrArg U (by kernel_rfl)),f271:=Tryz.func213.trans (congrArg U (by kernel_rfl)),t0:=underlying0,a0:=isAgg0,z0:=sizeOf0,v0:=zeroValue0,t3:=underlying3,a3:=isAgg3,z3:=sizeOf3,v3:=zeroValue3,t4:=underlying4,a4:=isAgg4,z4:=sizeOf4,v4:=zeroValue4,t5:=underlying5,a5:=isAgg5,z5:=sizeOf5,v5:=zeroValue5,t9:=underlying9,a9:=isAgg9,z9:=sizeOf9,v9:=zeroValue9,t21:=underlying21,a21:=isAgg21,z21:=sizeOf21,v21:=zeroValue21,t46:=underlying227,a46:=isAgg227,z46:=sizeOf227,v46:=zeroValue227,t105:=underlying245,a105:=isAgg245,z105:=sizeOf245,v105:=zeroValue245,t116:=underlying250,a116:=isAgg250,z116:=sizeOf250,t117:=underlying251,a117:=isAgg251,z117:=sizeOf251,v117:=zeroValue251,t119:=underlying318,a119:=isAgg318,z119:=sizeOf318,t124:=underlying254,a124:=isAgg254,z124:=sizeOf254,v124:=zeroValue254,t138:=underlying320,a138:=isAgg320,z138:=sizeOf320,v138:=zeroValue320,t139:=underlying321,a139:=isAgg321,z139:=sizeOf321,v139:=zeroValue321,g3:=by kernel_rfl,g4:=by kernel_rfl}
open Go.RowKit in theorem Tryz.strings_Trim_one(s:ByteArray)(c:UInt8)(H:c.toNat<128)(w:ac)(F:s.size<=9223372036854775807):ap ae 128 #[ad s,ad ⟨#[c]⟩] w fun e w'=>e=aq (ad ⟨(Lib.trimB s.data.toList c).toArray⟩)/\(w'=w\/w'=w.drew):=Any.strings_Trim_one Tryz.agA s c H w F
def Tryz.adC:rp:=⟨fun|137=>136|217=>178|266=>219|n=>n,fun|9=>9|5=>5|3=>3|n=>n,fun|n=>n⟩
theorem Tryz.anT:Go.Proofs.Lays.n137 ae Tryz.adC:={mixed:=by kernel_rfl,f137:=Tryz.func136.trans (congrArg U (by kernel_rfl)),f217:=Tryz.func178.trans (congrArg U (by kernel_rfl)),f266:=Tryz.func219.trans (congrArg U (by kernel_rfl)),t3:=underlying3,a3:=isAgg3,z3:=sizeOf3,v3:=zeroValue3,t5:=underlying5,a5:=isAgg5,z5:=sizeOf5,v5:=zeroValue5,t9:=underlying9,a9:=isAgg9,z9:=sizeOf9,v9:=zeroValue9}
open Go.RowKit in theorem Tryz.strings_IndexByte(s:ByteArray)(c:Int)(w:ac):ap ae 136 #[ad s,I aM c] w fun e w'=>e=aq (I R (kg s.data.toList c.toNat.toUInt8))/\w'=w:=Any.strings_IndexByte Tryz.anT s c w
def Tryz.apK:rp:=⟨fun|211=>253|207=>124|n=>n,fun|9=>9|4=>4|3=>3|n=>n,fun|n=>n⟩
def Tryz.ag3:rp:=⟨fun|104=>228|211=>253|207=>124|n=>n,fun|9=>9|4=>4|24=>86|3=>3|n=>n,fun|n=>n⟩
theorem Tryz.afp:Go.Proofs.Lays.n104 ae Tryz.ag3:={mixed:=by kernel_rfl,f104:=Tryz.func228.trans (congrArg U (by kernel_rfl)),f207:=Tryz.func124.trans (congrArg U (by kernel_rfl)),f211:=Tryz.func253.trans (congrArg U (by kernel_rfl)),t3:=underlying3,a3:=isAgg3,z3:=sizeOf3,v3:=zeroValue3,t4:=underlying4,a4:=isAgg4,z4:=sizeOf4,v4:=zeroValue4,t9:=underlying9,a9:=isAgg9,z9:=sizeOf9,v9:=zeroValue9,t24:=underlying86,a24:=isAgg86,z24:=sizeOf86,v24:=zeroValue86}
open Go.RowKit in theorem Tryz.strings_CutSuffix(s p:ByteArray)(w:ac)(F:s.size<=9223372036854775807):ap ae 228 #[ad s,ad p] w fun e w'=>e=aq (az #[ad ⟨(AN s.data.toList p.data.toList).toArray⟩, .bool (N1 s.data.toList p.data.toList)])/\w'=w:=Any.strings_CutSuffix Tryz.afp s p w F
def Tryz.ak2:rp:=⟨fun|283=>179|n=>n,fun|3=>3|9=>9|4=>4|n=>n,fun|n=>n⟩
theorem Tryz.am3:Go.Proofs.Lays.n283 ae Tryz.ak2:={mixed:=by kernel_rfl,f283:=Tryz.func179.trans (congrArg U (by kernel_rfl)),t3:=underlying3,a3:=isAgg3,z3:=sizeOf3,v3:=zeroValue3,t4:=underlying4,a4:=isAgg4,z4:=sizeOf4,v4:=zeroValue4,t9:=underlying9,a9:=isAgg9,z9:=sizeOf9,v9:=zeroValue9}
open Go.Lib in theorem Tryz.internal_strconv_small(i:Nat)(h:i<100)(w:ac):ap ae 179 #[I R i] w fun e w'=>e=aq (ad ⟨(aQ i).toArray⟩)/\w'=w:=Any.internal_strconv_small Tryz.am3 i h w
def Tryz.ahE:rp:=⟨fun|284=>180|129=>221|317=>220|318=>222|n=>n,fun|53=>65|3=>3|212=>302|0=>0|4=>4|46=>227|5=>5|9=>9|n=>n,fun|17=>2|n=>n⟩
theorem Tryz.ak6:Go.Proofs.LaysM.n284 ae Tryz.ahE:={mixed:=by kernel_rfl,f129:=Tryz.func221.trans (congrArg U (by kernel_rfl)),f284:=Tryz.func180.trans (congrArg U (by kernel_rfl)),f317:=Tryz.func220.trans (congrArg U (by kernel_rfl)),f318:=Tryz.func222.trans (congrArg U (by kernel_rfl)),t0:=underlying0,a0:=isAgg0,z0:=sizeOf0,v0:=zeroValue0,t3:=underlying3,a3:=isAgg3,z3:=sizeOf3,v3:=zeroValue3,t4:=underlying4,a4:=isAgg4,z4:=sizeOf4,v4:=zeroValue4,t5:=underlying5,a5:=isAgg5,z5:=sizeOf5,v5:=zeroValue5,t9:=underlying9,a9:=isAgg9,z9:=sizeOf9,v9:=zeroValue9,t46:=underlying227,a46:=isAgg227,z46:=sizeOf227,v46:=zeroValue227,t53:=underlying65,a53:=isAgg65,z53:=sizeOf65,v53:=zeroValue65,t212:=underlying302,a212:=isAgg302,z212:=sizeOf302,v212:=zeroValue302,g17:=by kernel_rfl,i0:=by kernel_rfl,i3:=by kernel_rfl,i4:=by kernel_rfl,i5:=by kernel_rfl,i9:=by kernel_rfl,i46:=by kernel_rfl,i53:=by kernel_rfl,i212:=by kernel_rfl,m17:=by kernel_rfl}
open Go.Lib in theorem Tryz.internal_strconv_numDigits(ay:Nat)(q:1<=ay)(h2:ay<18446744073709551616)(w:ac)(Tp:Lib.TabIs ae w "internal/strconv.uint64pow10" ah Lib.pow10Tab):ap ae 180 #[I ah ay] w fun e w'=>e=aq (I R (Lib.nDigits ay))/\w'=w:=Any.internal_strconv_numDigits Tryz.ak6 ay q h2 w Tp
def Tryz.amH:rp:=⟨fun|285=>181|n=>n,fun|37=>134|53=>65|3=>3|4=>4|51=>64|9=>9|5=>5|0=>0|n=>n,fun|n=>n⟩
theorem Tryz.akd:Go.Proofs.Lays.n285 ae Tryz.amH:={mixed:=by kernel_rfl,f285:=Tryz.func181.trans (congrArg U (by kernel_rfl)),t0:=underlying0,a0:=isAgg0,z0:=sizeOf0,v0:=zeroValue0,t3:=underlying3,a3:=isAgg3,z3:=sizeOf3,v3:=zeroValue3,t4:=underlying4,a4:=isAgg4,z4:=sizeOf4,v4:=zeroValue4,t5:=underlying5,a5:=isAgg5,z5:=sizeOf5,v5:=zeroValue5,t9:=underlying9,a9:=isAgg9,z9:=sizeOf9,v9:=zeroValue9,t37:=underlying134,a37:=isAgg134,z37:=sizeOf134,v37:=zeroValue134,t51:=underlying64,a51:=isAgg64,z51:=sizeOf64,v51:=zeroValue64,t53:=underlying65,a53:=isAgg65,z53:=sizeOf65,v53:=zeroValue65}
open Go.RowKit Go.Sort Go.Lib in theorem Tryz.internal_strconv_formatBase10(J_ off cap:Nat)(ay:Nat)(d:Array UInt8)(w:ac)(afv:Holds (fun(b:UInt8)=>I aM (b.toNat:Int)) w J_ off d)(hu:ay<10^d.size)(uF:ay<18446744073709551616)(cP:d.size<4611686018427387904):ap ae 181 #[ak (U ⟨J_,off,ab⟩) d.size cap,I ah ay] w fun e w'=>e=aq (az #[])/\∃(n v':Nat)(fK:Array UInt8),w'=(putRow (fun(b:UInt8)=>I aM (b.toNat:Int)) w J_ off fK).drewN n/\FmtInv d.size ay 0 v' fK:=Any.internal_strconv_formatBase10 Tryz.akd J_ off cap ay d w afv hu uF cP
def Tryz.ahF:rp:=⟨fun|171=>60|243=>96|246=>137|283=>179|284=>180|285=>181|286=>182|129=>221|317=>220|318=>222|319=>223|320=>224|337=>249|338=>250|n=>n,fun|3=>3|9=>9|2=>2|4=>4|171=>263|0=>0|53=>65|37=>134|5=>5|173=>265|212=>302|51=>64|20=>20|213=>303|46=>227|232=>339|233=>60|n=>n,fun|17=>2|18=>7|19=>8|n=>n⟩
theorem Tryz.ahV:Go.Proofs.LaysM.n171 ae Tryz.ahF:={mixed:=by kernel_rfl,f129:=Tryz.func221.trans (congrArg U (by kernel_rfl)),f171:=Tryz.func60.trans (congrArg U (by kernel_rfl)),f243:=Tryz.func96.trans (congrArg U (by kernel_rfl)),f246:=Tryz.func137.trans (congrArg U (by kernel_rfl)),f283:=Tryz.func179.trans (congrArg U (by kernel_rfl)),f284:=Tryz.func180.trans (congrArg U (by kernel_rfl)),f285:=Tryz.func181.trans (congrArg U (by kernel_rfl)),f286:=Tryz.func182.trans (congrArg U (by kernel_rfl)),f317:=Tryz.func220.trans (congrArg U (by kernel_rfl)),f318:=Tryz.func222.trans (congrArg U (by kernel_rfl)),f319:=Tryz.func223.trans (congrArg U (by kernel_rfl)),f320:=Tryz.func224.trans (congrArg U (by kernel_rfl)),f337:=Tryz.func249.trans (congrArg U (by kernel_rfl)),f338:=Tryz.func250.trans (congrArg U (by kernel_rfl)),t0:=underlying0,a0:=isAgg0,z0:=sizeOf0,v0:=zeroValue0,t2:=underlying2,a2:=isAgg2,z2:=sizeOf2,v2:=zeroValue2,t3:=underlying3,a3:=isAgg3,z3:=sizeOf3,v3:=zeroValue3,t4:=underlying4,a4:=isAgg4,z4:=sizeOf4,v4:=zeroValue4,t5:=underlying5,a5:=isAgg5,z5:=sizeOf5,v5:=zeroValue5,t9:=underlying9,a9:=isAgg9,z9:=sizeOf9,v9:=zeroValue9,t20:=underlying20,a20:=isAgg20,z20:=sizeOf20,v20:=zeroValue20,t37:=underlying134,a37:=isAgg134,z37:=sizeOf134,v37:=zeroValue134,t46:=underlying227,a46:=isAgg227,z46:=sizeOf227,v46:=zeroValue227,t51:=underlying64,a51:=isAgg64,z51:=sizeOf64,v51:=zeroValue64,t53:=underlying65,a53:=isAgg65,z53:=sizeOf65,v53:=zeroValue65,t171:=underlying263,a171:=isAgg263,z171:=sizeOf263,v171:=zeroValue263,t173:=underlying265,a173:=isAgg265,z173:=sizeOf265,v173:=zeroValue265,t212:=underlying302,a212:=isAgg302,z212:=sizeOf302,v212:=zeroValue302,t213:=underlying303,a213:=isAgg303,z213:=sizeOf303,t232:=underlying339,a232:=isAgg339,z232:=sizeOf339,v232:=zeroValue339,t233:=underlying60,a233:=isAgg60,z233:=sizeOf60,v233:=zeroValue60,g17:=by kernel_rfl,g18:=by kernel_rfl,g19:=by kernel_rfl,i0:=by kernel_rfl,i2:=by kernel_rfl,i3:=by kernel_rfl,i4:=by kernel_rfl,i5:=by kernel_rfl,i9:=by kernel_rfl,i20:=by kernel_rfl,i37:=by kernel_rfl,i46:=by kernel_rfl,i51:=by kernel_rfl,i53:=by kernel_rfl,i171:=by kernel_rfl,i173:=by kernel_rfl,i212:=by kernel_rfl,i232:=by kernel_rfl,i233:=by kernel_rfl,m17:=by kernel_rfl,m18:=by kernel_rfl,m19:=by kernel_rfl}
open Go.RowKit Go.Sort Go.Lib in theorem Tryz.strconv_Itoa(n:Int)(h0:-9223372036854775808<=n)(q:n<=9223372036854775807)(w:ac)(Tp:Lib.TabIs ae w "internal/strconv.uint64pow10" ah Lib.pow10Tab):ap ae 60 #[I R n] w fun e w'=>e=aq (ad ⟨(Lib.itoa n).toArray⟩)/\∃k os,w'=grow (w.drewN k) os:=Any.strconv_Itoa Tryz.ahV n h0 q w Tp
def Tryz.ahA:rp:=⟨fun|316=>164|n=>n,fun|9=>9|3=>3|4=>4|37=>134|0=>0|127=>283|5=>5|n=>n,fun|n=>n⟩
theorem Tryz.ahT:Go.Proofs.LaysM.n316 ae Tryz.ahA:={mixed:=by kernel_rfl,f316:=Tryz.func164.trans (congrArg U (by kernel_rfl)),t0:=underlying0,a0:=isAgg0,z0:=sizeOf0,v0:=zeroValue0,t3:=underlying3,a3:=isAgg3,z3:=sizeOf3,v3:=zeroValue3,t4:=underlying4,a4:=isAgg4,z4:=sizeOf4,v4:=zeroValue4,t9:=underlying9,a9:=isAgg9,z9:=sizeOf9,v9:=zeroValue9,t37:=underlying134,a37:=isAgg134,z37:=sizeOf134,v37:=zeroValue134,t127:=underlying283,a127:=isAgg283,z127:=sizeOf283,v127:=zeroValue283,t5:=underlying5,a5:=isAgg5,z5:=sizeOf5,v5:=zeroValue5,i0:=by kernel_rfl,i3:=by kernel_rfl,i4:=by kernel_rfl,i5:=by kernel_rfl,i9:=by kernel_rfl,i37:=by kernel_rfl,i127:=by kernel_rfl}
open Go.RowKit in theorem Tryz.stringslite_Clone(s:ByteArray)(w:ac)(GD:s.size<=281474976710656):ap ae 164 #[ad s] w fun e w'=>e=aq (ad s)/\Below w.heap.size w w':=Any.stringslite_Clone Tryz.ahT s w GD
def Tryz.afF:rp:=⟨fun|14=>125|16=>162|17=>163|19=>205|20=>206|21=>207|22=>208|23=>209|24=>210|25=>164|27=>60|26=>238|28=>96|29=>137|30=>179|31=>180|32=>181|33=>182|35=>221|34=>220|36=>222|37=>223|38=>224|39=>249|40=>250|n=>n,fun|9=>9|3=>3|22=>65|24=>25|25=>218|4=>4|34=>286|5=>5|36=>227|37=>134|0=>0|39=>289|21=>21|44=>325|47=>283|50=>337|48=>335|2=>2|52=>263|55=>265|59=>302|60=>64|20=>20|61=>303|65=>339|66=>60|67=>144|n=>n,fun|0=>5|1=>6|2=>2|3=>7|4=>8|n=>n⟩
theorem Tryz.Q0:Go.Proofs.LaysPu.n14 ae Tryz.afF:={mixed:=by kernel_rfl,f14:=Tryz.func125.trans (congrArg U (by kernel_rfl)),f16:=Tryz.func162.trans (congrArg U (by kernel_rfl)),f17:=Tryz.func163.trans (congrArg U (by kernel_rfl)),f19:=Tryz.func205.trans (congrArg U (by kernel_rfl)),f20:=Tryz.func206.trans (congrArg U (by kernel_rfl)),f21:=Tryz.func207.trans (congrArg U (by kernel_rfl)),f22:=Tryz.func208.trans (congrArg U (by kernel_rfl)),f23:=Tryz.func209.trans (congrArg U (by kernel_rfl)),f24:=Tryz.func210.trans (congrArg U (by kernel_rfl)),f25:=Tryz.func164.trans (congrArg U (by kernel_rfl)),f26:=Tryz.func238.trans (congrArg U (by kernel_rfl)),f27:=Tryz.func60.trans (congrArg U (by kernel_rfl)),f28:=Tryz.func96.trans (congrArg U (by kernel_rfl)),f29:=Tryz.func137.trans (congrArg U (by kernel_rfl)),f30:=Tryz.func179.trans (congrArg U (by kernel_rfl)),f31:=Tryz.func180.trans (congrArg U (by kernel_rfl)),f32:=Tryz.func181.trans (congrArg U (by kernel_rfl)),f33:=Tryz.func182.trans (congrArg U (by kernel_rfl)),f34:=Tryz.func220.trans (congrArg U (by kernel_rfl)),f35:=Tryz.func221.trans (congrArg U (by kernel_rfl)),f36:=Tryz.func222.trans (congrArg U (by kernel_rfl)),f37:=Tryz.func223.trans (congrArg U (by kernel_rfl)),f38:=Tryz.func224.trans (congrArg U (by kernel_rfl)),f39:=Tryz.func249.trans (congrArg U (by kernel_rfl)),f40:=Tryz.func250.trans (congrArg U (by kernel_rfl)),t0:=underlying0,a0:=isAgg0,z0:=sizeOf0,v0:=zeroValue0,i0:=by kernel_rfl,t2:=underlying2,a2:=isAgg2,z2:=sizeOf2,v2:=zeroValue2,i2:=by kernel_rfl,t3:=underlying3,a3:=isAgg3,z3:=sizeOf3,v3:=zeroValue3,i3:=by kernel_rfl,t4:=underlying4,a4:=isAgg4,z4:=sizeOf4,v4:=zeroValue4,i4:=by kernel_rfl,t5:=underlying5,a5:=isAgg5,z5:=sizeOf5,v5:=zeroValue5,i5:=by kernel_rfl,t9:=underlying9,a9:=isAgg9,z9:=sizeOf9,v9:=zeroValue9,i9:=by kernel_rfl,t20:=underlying20,a20:=isAgg20,z20:=sizeOf20,v20:=zeroValue20,i20:=by kernel_rfl,t21:=underlying21,a21:=isAgg21,z21:=sizeOf21,v21:=zeroValue21,i21:=by kernel_rfl,t22:=underlying65,a22:=isAgg65,z22:=sizeOf65,v22:=zeroValue65,i22:=by kernel_rfl,t24:=underlying25,a24:=isAgg25,z24:=sizeOf25,v24:=zeroValue25,i24:=by kernel_rfl,t25:=underlying218,a25:=isAgg218,z25:=sizeOf218,v25:=zeroValue218,i25:=by kernel_rfl,t34:=underlying286,a34:=isAgg286,z34:=sizeOf286,v34:=zeroValue286,i34:=by kernel_rfl,c34:=by kernel_rfl,t36:=underlying227,a36:=isAgg227,z36:=sizeOf227,v36:=zeroValue227,i36:=by kernel_rfl,t37:=underlying134,a37:=isAgg134,z37:=sizeOf134,v37:=zeroValue134,i37:=by kernel_rfl,t39:=underlying289,a39:=isAgg289,z39:=sizeOf289,v39:=zeroValue289,i39:=by kernel_rfl,t44:=underlying325,a44:=isAgg325,z44:=sizeOf325,v44:=zeroValue325,i44:=by kernel_rfl,t47:=underlying283,a47:=isAgg283,z47:=sizeOf283,v47:=zeroValue283,i47:=by kernel_rfl,t48:=underlying335,a48:=isAgg335,z48:=sizeOf335,v48:=zeroValue335,i48:=by kernel_rfl,t50:=underlying337,a50:=isAgg337,z50:=sizeOf337,v50:=zeroValue337,i50:=by kernel_rfl,t52:=underlying263,a52:=isAgg263,z52:=sizeOf263,v52:=zeroValue263,i52:=by kernel_rfl,t55:=underlying265,a55:=isAgg265,z55:=sizeOf265,v55:=zeroValue265,i55:=by kernel_rfl,t59:=underlying302,a59:=isAgg302,z59:=sizeOf302,v59:=zeroValue302,i59:=by kernel_rfl,t60:=underlying64,a60:=isAgg64,z60:=sizeOf64,v60:=zeroValue64,i60:=by kernel_rfl,t61:=underlying303,a61:=isAgg303,z61:=sizeOf303,t65:=underlying339,a65:=isAgg339,z65:=sizeOf339,v65:=zeroValue339,i65:=by kernel_rfl,t66:=underlying60,a66:=isAgg60,z66:=sizeOf60,v66:=zeroValue60,i66:=by kernel_rfl,t67:=underlying144,a67:=isAgg144,z67:=sizeOf144,v67:=zeroValue144,i67:=by kernel_rfl,g0:=by kernel_rfl,m0:=by kernel_rfl,g1:=by kernel_rfl,m1:=by kernel_rfl,g2:=by kernel_rfl,m2:=by kernel_rfl,g3:=by kernel_rfl,m3:=by kernel_rfl,g4:=by kernel_rfl,m4:=by kernel_rfl}
open Go.RowKit in theorem Tryz.strconv_ParseUint_10_at64_ok(s:ByteArray)(Dl:s.size<=9223372036854775806)(ay:Nat)(h:tM 64 s.data.toList= .ok ay)(w:ac):ap ae 125 #[ad s,I R 10,I R 64] w fun e w'=>e=aq (az #[I ah ay, .nilIface])/\(w'=w\/w'=Lib.bytesWorld w 5 s):=Any.strconv_ParseUint_10_at64_ok Tryz.Q0 s Dl ay h w
open Go.RowKit in theorem Tryz.strconv_ParseUint_10_at64_syntax(s:ByteArray)(GD:s.size<=281474976710656)(h:tM 64 s.data.toList= .«syntax»)(ev:ag)(w:ac)(hv:w.cell? ⟨5,0,ab⟩=U ev)(zB:ev= .nilIface\/∃te pe,ev=b8 te pe):ap ae 125 #[ad s,I R 10,I R 64] w fun e w'=>∃bu,e=aq (az #[I ah 0,b8 289 (av (U ⟨bu,0,ab⟩))])/\w.heap.size<=bu/\w'.heap[bu]?=U (.cells #[ad ⟨#[80,97,114,115,101,85,105,110,116]⟩,ad s,ev] 325 (0,0))/\Below w.heap.size w w':=Any.strconv_ParseUint_10_at64_syntax Tryz.Q0 s GD h ev w hv zB
open Go.RowKit in theorem Tryz.strconv_ParseUint_10_at64_range(s:ByteArray)(GD:s.size<=281474976710656)(h:tM 64 s.data.toList= .range)(ev:ag)(w:ac)(hv:w.cell? ⟨6,0,ab⟩=U ev)(zB:ev= .nilIface\/∃te pe,ev=b8 te pe):ap ae 125 #[ad s,I R 10,I R 64] w fun e w'=>∃bu,e=aq (az #[I ah 18446744073709551615,b8 289 (av (U ⟨bu,0,ab⟩))])/\w.heap.size<=bu/\w'.heap[bu]?=U (.cells #[ad ⟨#[80,97,114,115,101,85,105,110,116]⟩,ad s,ev] 325 (0,0))/\Below w.heap.size w w':=Any.strconv_ParseUint_10_at64_range Tryz.Q0 s GD h ev w hv zB
def Tryz.aiJ:rp:=⟨fun|219=>161|217=>178|225=>202|224=>203|267=>204|266=>219|314=>237|n=>n,fun|9=>9|3=>3|4=>4|5=>5|46=>227|146=>322|51=>64|n=>n,fun|1=>1|n=>n⟩
theorem Tryz.aik:Go.Proofs.Lays.n219 ae Tryz.aiJ:={mixed:=by kernel_rfl,f217:=Tryz.func178.trans (congrArg U (by kernel_rfl)),f219:=Tryz.func161.trans (congrArg U (by kernel_rfl)),f224:=Tryz.func203.trans (congrArg U (by kernel_rfl)),f225:=Tryz.func202.trans (congrArg U (by kernel_rfl)),f266:=Tryz.func219.trans (congrArg U (by kernel_rfl)),f267:=Tryz.func204.trans (congrArg U (by kernel_rfl)),f314:=Tryz.func237.trans (congrArg U (by kernel_rfl)),t3:=underlying3,a3:=isAgg3,z3:=sizeOf3,v3:=zeroValue3,t4:=underlying4,a4:=isAgg4,z4:=sizeOf4,v4:=zeroValue4,t5:=underlying5,a5:=isAgg5,z5:=sizeOf5,v5:=zeroValue5,t9:=underlying9,a9:=isAgg9,z9:=sizeOf9,v9:=zeroValue9,t46:=underlying227,a46:=isAgg227,z46:=sizeOf227,v46:=zeroValue227,t51:=underlying64,a51:=isAgg64,z51:=sizeOf64,v51:=zeroValue64,t146:=underlying322,a146:=isAgg322,z146:=sizeOf322,v146:=zeroValue322,g1:=by kernel_rfl}
open Go.RowKit Go.Lib in theorem Tryz.stringslite_Index_one(s:ByteArray)(c:UInt8)(w:ac):ap ae 161 #[ad s,ad ⟨#[c]⟩] w fun e w'=>e=aq (I R (kg s.data.toList c))/\w'=w:=Any.stringslite_Index_one Tryz.aik s c w
def Tryz.aiC:rp:=⟨fun|100=>226|207=>124|n=>n,fun|9=>9|4=>4|3=>3|n=>n,fun|n=>n⟩
theorem Tryz.aiM:Go.Proofs.Lays.n100 ae Tryz.aiC:={mixed:=by kernel_rfl,f100:=Tryz.func226.trans (congrArg U (by kernel_rfl)),f207:=Tryz.func124.trans (congrArg U (by kernel_rfl)),t3:=underlying3,a3:=isAgg3,z3:=sizeOf3,v3:=zeroValue3,t4:=underlying4,a4:=isAgg4,z4:=sizeOf4,v4:=zeroValue4,t9:=underlying9,a9:=isAgg9,z9:=sizeOf9,v9:=zeroValue9}
open Go.RowKit Go.Lib in theorem Tryz.strings_HasSuffix(s p:ByteArray)(w:ac)(F:s.size<=9223372036854775807):ap ae 226 #[ad s,ad p] w fun e w'=>e=aq (.bool (N1 s.data.toList p.data.toList))/\w'=w:=Any.strings_HasSuffix Tryz.aiM s p w F
def Tryz.aew:rp:=⟨fun|102=>50|209=>86|207=>124|n=>n,fun|9=>9|4=>4|3=>3|n=>n,fun|n=>n⟩
theorem Tryz.ajc:Go.Proofs.Lays.n102 ae Tryz.aew:={mixed:=by kernel_rfl,f102:=Tryz.func50.trans (congrArg U (by kernel_rfl)),f207:=Tryz.func124.trans (congrArg U (by kernel_rfl)),f209:=Tryz.func86.trans (congrArg U (by kernel_rfl)),t3:=underlying3,a3:=isAgg3,z3:=sizeOf3,v3:=zeroValue3,t4:=underlying4,a4:=isAgg4,z4:=sizeOf4,v4:=zeroValue4,t9:=underlying9,a9:=isAgg9,z9:=sizeOf9,v9:=zeroValue9}
open Go.RowKit Go.Lib in theorem Tryz.strings_TrimSuffix(s p:ByteArray)(w:ac)(F:s.size<=9223372036854775807):ap ae 50 #[ad s,ad p] w fun e w'=>e=aq (ad ⟨(AN s.data.toList p.data.toList).toArray⟩)/\w'=w:=Any.strings_TrimSuffix Tryz.ajc s p w F
def Tryz.ahn:rp:=⟨fun|146=>49|221=>85|268=>121|138=>122|143=>123|195=>158|197=>159|218=>160|219=>161|260=>201|217=>178|225=>202|224=>203|267=>204|266=>219|314=>237|n=>n,fun|9=>9|31=>22|3=>3|4=>4|0=>0|105=>245|21=>21|5=>5|46=>227|119=>318|139=>321|138=>320|146=>322|51=>64|n=>n,fun|1=>1|3=>3|4=>4|n=>n⟩
theorem Tryz.aeq:Go.Proofs.Lays.n146 ae Tryz.ahn:={mixed:=by kernel_rfl,f138:=Tryz.func122.trans (congrArg U (by kernel_rfl)),f143:=Tryz.func123.trans (congrArg U (by kernel_rfl)),f146:=Tryz.func49.trans (congrArg U (by kernel_rfl)),f195:=Tryz.func158.trans (congrArg U (by kernel_rfl)),f197:=Tryz.func159.trans (congrArg U (by kernel_rfl)),f217:=Tryz.func178.trans (congrArg U (by kernel_rfl)),f218:=Tryz.func160.trans (congrArg U (by kernel_rfl)),f219:=Tryz.func161.trans (congrArg U (by kernel_rfl)),f221:=Tryz.func85.trans (congrArg U (by kernel_rfl)),f224:=Tryz.func203.trans (congrArg U (by kernel_rfl)),f225:=Tryz.func202.trans (congrArg U (by kernel_rfl)),f260:=Tryz.func201.trans (congrArg U (by kernel_rfl)),f266:=Tryz.func219.trans (congrArg U (by kernel_rfl)),f267:=Tryz.func204.trans (congrArg U (by kernel_rfl)),f268:=Tryz.func121.trans (congrArg U (by kernel_rfl)),f314:=Tryz.func237.trans (congrArg U (by kernel_rfl)),t0:=underlying0,a0:=isAgg0,z0:=sizeOf0,v0:=zeroValue0,t3:=underlying3,a3:=isAgg3,z3:=sizeOf3,v3:=zeroValue3,t4:=underlying4,a4:=isAgg4,z4:=sizeOf4,v4:=zeroValue4,t5:=underlying5,a5:=isAgg5,z5:=sizeOf5,v5:=zeroValue5,t9:=underlying9,a9:=isAgg9,z9:=sizeOf9,v9:=zeroValue9,t21:=underlying21,a21:=isAgg21,z21:=sizeOf21,v21:=zeroValue21,t31:=underlying22,a31:=isAgg22,z31:=sizeOf22,v31:=zeroValue22,t46:=underlying227,a46:=isAgg227,z46:=sizeOf227,v46:=zeroValue227,t51:=underlying64,a51:=isAgg64,z51:=sizeOf64,v51:=zeroValue64,t105:=underlying245,a105:=isAgg245,z105:=sizeOf245,v105:=zeroValue245,t119:=underlying318,a119:=isAgg318,z119:=sizeOf318,t138:=underlying320,a138:=isAgg320,z138:=sizeOf320,v138:=zeroValue320,t139:=underlying321,a139:=isAgg321,z139:=sizeOf321,v139:=zeroValue321,t146:=underlying322,a146:=isAgg322,z146:=sizeOf322,v146:=zeroValue322,g1:=by kernel_rfl,g3:=by kernel_rfl,g4:=by kernel_rfl}
open Go.RowKit Go.Lib in theorem Tryz.strings_Split(s gt:ByteArray)(m:Int)(w:ac)(F:s.size<4294967281)(hm:w.cell? ⟨1,0,ab⟩=U (I R m))(q:1<=gt.size):ap ae 49 #[ad s,ad gt] w fun e w'=>e=aq (ak (U ⟨w.heap.size,0,ab⟩) (FD s gt+1) (FD s gt+1))/\w'=w.alloc (.cells ((Lib.splitB gt 0 (FD s gt) s).map ad).toArray 9):=Any.strings_Split Tryz.aeq (by kernel_rfl) s gt m w F hm q
end Go.Proofs
namespace Go.Proofs.YtefdakbahplnbaaGreatDoor
open Go.RowKit
abbrev oQ(ip:Nat)(b lo hi:Int):ag:= .agg #[I .u32 ip,I R b,I R lo,I R hi]
def cf(ip:Nat)(b lo hi:Int):Nat:=if b<0\/32<b\/lo<0\/65535<hi\/hi<lo then 1 else if ip%cA b.toNat=0 then 0 else 3
def cj(n:Nat):ag:=if n=0 then .nilIface else b8 43 (I R n)
theorem xI(ip:Nat)(bt:ip<4294967296)(b lo hi:Int)(hb:-9223372036854775808<=b/\b<=9223372036854775807)(hl:-9223372036854775808<=lo/\lo<=9223372036854775807)(hh:-9223372036854775808<=hi/\hi<=9223372036854775807)(w:ac):ap ae 134 #[oQ ip b lo hi] w fun e w'=>e=aq (cj (cf ip b lo hi))/\Below w.heap.size w w':=by
 by_cases c0:b<0;.have HF:=aa (show cj (cf ip b lo hi)=b8 43 (I R 1)by unfold cf;rw[if_pos (by omega)];rfl);have d0:decide (b<0)=true:=decide_eq_true c0;go_enter func134,ntmps134;go_wp2;go_ret;refine⟨by rw[HF.out];rfl,?_⟩;first|exact(aS _ _).alloc (aA _) _|exact jq ((aS _ _).alloc (aA _) _) _
 .have d0:decide (b<0)=false:=decide_eq_false c0;by_cases c1:32<b;.have HF:=aa (show cj (cf ip b lo hi)=b8 43 (I R 1)by unfold cf;rw[if_pos (by omega)];rfl);have d1:decide ((32:Int)<b)=true:=decide_eq_true c1;go_enter func134,ntmps134;go_wp2;go_ret;refine⟨by rw[HF.out];rfl,?_⟩;first|exact(aS _ _).alloc (aA _) _|exact jq ((aS _ _).alloc (aA _) _) _
  .have d1:decide ((32:Int)<b)=false:=decide_eq_false c1;by_cases c2:lo<0;.have HF:=aa (show cj (cf ip b lo hi)=b8 43 (I R 1)by unfold cf;rw[if_pos (by omega)];rfl);have d2:decide (lo<0)=true:=decide_eq_true c2;go_enter func134,ntmps134;go_wp2;go_ret;refine⟨by rw[HF.out];rfl,?_⟩;first|exact(aS _ _).alloc (aA _) _|exact jq ((aS _ _).alloc (aA _) _) _
   .have d2:decide (lo<0)=false:=decide_eq_false c2;by_cases c3:65535<hi;.have HF:=aa (show cj (cf ip b lo hi)=b8 43 (I R 1)by unfold cf;rw[if_pos (by omega)];rfl);have d3:decide ((65535:Int)<hi)=true:=decide_eq_true c3;go_enter func134,ntmps134;go_wp2;go_ret;refine⟨by rw[HF.out];rfl,?_⟩;first|exact(aS _ _).alloc (aA _) _|exact jq ((aS _ _).alloc (aA _) _) _
    .have d3:decide ((65535:Int)<hi)=false:=decide_eq_false c3;by_cases fj:hi<lo;.have HF:=aa (show cj (cf ip b lo hi)=b8 43 (I R 1)by unfold cf;rw[if_pos (by omega)];rfl);have d4:decide (hi<lo)=true:=decide_eq_true fj;go_enter func134,ntmps134;go_wp2;go_ret;refine⟨by rw[HF.out];rfl,?_⟩;first|exact(aS _ _).alloc (aA _) _|exact jq ((aS _ _).alloc (aA _) _) _
     .have d4:decide (hi<lo)=false:=decide_eq_false fj;obtain⟨k,rfl⟩:∃k:Nat,b=k:=⟨b.toNat,by omega⟩;have z:k<=32:=by omega
      have er:bits .andNot .u32 (ip:Int) (pH k:Int)=((ip%cA k:Nat):Int):=by rw[u32_andNot_nat _ _ bt (Wd k),aix]
      by_cases Ks:ip%cA k=0
      .have HF:=aa (show cj (cf ip (k:Int) lo hi)= .nilIface by unfold cf;rw[if_neg (by omega),d_,if_pos Ks];rfl);have Oq:(((ip%cA k:Nat):Int)==0)=true:=by rw[beq_iff_eq];omega
       clear Ks;go_enter func134,ntmps134;go_wp2;go_quiet((go_at_call 176;first|exact Calls.quiet_of_same (B2 k z _)|exact JR (B2 k z _)));go_wp2;go_ret;refine⟨by rw[HF.out];rfl,?_⟩;first|exact(aS _ _).alloc (aA _) _|exact jq ((aS _ _).alloc (aA _) _) _
      .have HF:=aa (show cj (cf ip (k:Int) lo hi)=b8 43 (I R 3)by unfold cf;rw[if_neg (by omega),d_,if_neg Ks];rfl);have Oq:(((ip%cA k:Nat):Int)==0)=false:=by rw[beq_eq_false_iff_ne];omega
       clear Ks;go_enter func134,ntmps134;go_wp2;go_quiet((go_at_call 176;first|exact Calls.quiet_of_same (B2 k z _)|exact JR (B2 k z _)));go_wp2;go_ret;refine⟨by rw[HF.out];rfl,?_⟩;first|exact(aS _ _).alloc (aA _) _|exact jq ((aS _ _).alloc (aA _) _) _
def eZ:List UInt8:=[46,46,46,47,58,45]
def oj(a b c d:Nat):Nat:=((a*256+b)*256+c)*256+d
def gx(ip b lo hi:Nat):List Nat:=[ip/16777216,ip/65536%256,ip/256%256,ip%256,b,lo,hi]
def mW(ip b lo hi:Nat):List UInt8:=mb eZ (gx ip b lo hi)
def ca(s:List UInt8):Option (Nat×Nat×Nat×Nat):=match iS eZ s with|U [a,b,c,d,e,f,g]=>if a<=255/\b<=255/\c<=255/\d<=255/\cf (oj a b c d) e f g=0 then U (oj a b c d,e,f,g)else ab|_=>ab
theorem rM{ip:Nat}{b lo hi:Int}(h:cf ip b lo hi=0):(0<=b/\b<=32)/\(0<=lo/\lo<=hi/\hi<=65535)/\ip%cA b.toNat=0:=by
 unfold cf at h;split at h;.simp at h
 .split at h;.rename_i q h2;exact⟨by omega,by omega,h2⟩
  .simp at h
theorem abp:∀c∈eZ,eD c=false:=by decide+kernel
theorem aff{ip b lo hi:Nat}(bt:ip<4294967296)(M:cf ip b lo hi=0):iS eZ (mW ip b lo hi)=U (gx ip b lo hi):=by obtain⟨q,h2,_⟩:=rM M;refine abK eZ _ abp J fun n u=>?_;simp only[gx,kh,xc,or_false]at u;omega
theorem acf(ip:Nat)(bt:ip<4294967296):oj (ip/16777216) (ip/65536%256) (ip/256%256) (ip%256)=ip:=by unfold oj;omega
theorem QS{ip b lo hi:Nat}(bt:ip<4294967296)(M:cf ip b lo hi=0):ca (mW ip b lo hi)=U (ip,b,lo,hi):=by unfold ca;rw[aff bt M];show(if _ then _ else _)=_;rw[acf ip bt,if_pos ⟨by omega,by omega,by omega,by omega,M⟩]
theorem Gb{l:List Nat}(h:l.length=7):∃a b c d e f g,l=[a,b,c,d,e,f,g]:=by match l,h with|[a,b,c,d,e,f,g],_=>exact⟨a,b,c,d,e,f,g,J⟩
theorem ZP{a b c d:Nat}(ha:a<=255)(hb:b<=255)(H:c<=255)(hd:d<=255):oj a b c d<4294967296:=by unfold oj;omega
theorem adg{a b c d:Nat}(_ha:a<=255)(hb:b<=255)(H:c<=255)(hd:d<=255)(e f g:Nat):gx (oj a b c d) e f g=[a,b,c,d,e,f,g]:=by unfold gx oj;rw[show(((a*256+b)*256+c)*256+d)/16777216=a by omega,show(((a*256+b)*256+c)*256+d)/65536%256=b by omega,show(((a*256+b)*256+c)*256+d)/256%256=c by omega,show(((a*256+b)*256+c)*256+d)%256=d by omega]
theorem Fi{s:List UInt8}{ip b lo hi:Nat}(h:ca s=U (ip,b,lo,hi)):ip<4294967296/\cf ip b lo hi=0/\s=mW ip b lo hi:=by
 unfold ca at h;split at h
 .rename_i a fL c d e f g F;split at h;.rename_i H;obtain⟨q,h2,h3,h4,h5⟩:=H;have h':=dG h;simp only[Prod.mk.injEq]at h';obtain⟨rfl,rfl,rfl,rfl⟩:=h';refine⟨ZP q h2 h3 h4,h5,?_⟩;obtain⟨_,_,h6⟩:=H' _ _ _ F;unfold mW;rw[adg q h2 h3 h4];exact h6
  .cases h
 .cases h
def bW(l:List UInt8):Nat:=if 20<l.length\/l.all eD=false then 0 else js 0 l%18446744073709551616
def cz(l:List UInt8):Bool:=if 20<l.length\/l.all eD=false then false else aQ (bW l)==l
def wZ(l:List UInt8):Option Nat:=if cz l=true/\bW l<=70000 then U (bW l)else ab
theorem UT(n:Nat)(h:n<=70000):wZ (aQ n)=U n:=by
 have h5:=BE n (by omega);have H:¬(20<(aQ n).length\/(aQ n).all eD=false):=by
  rw[Lib.decDigits_length,yB];rintro(h|h);.omega
  .cases h
 have e:bW (aQ n)=n:=by unfold bW;rw[if_neg H,BO,jg (by omega)]
 unfold wZ cz;rw[e,if_neg H,if_pos ⟨by simp,h⟩]
def lI:List UInt8->List UInt8->Nat->Option (List Nat)|co,[],k=>(wZ co).bind fun x=>if k<=6 then U [x]else ab|co,c::r,k=>if eD c=true then lI (co++[c]) r k else(wZ co).bind fun x=>if k<=6 then(lI [] r (k+1)).map fun Q=>x::Q else ab
theorem Rx(k:Nat)(r:List UInt8):∀(l co:List UInt8),l.all eD=true->lI co (l++r) k=lI (co++l) r k|[],co,_=>by simp|c::l,co,h=>by simp only[List.all_cons,Bool.and_eq_true]at h;rw[List.cons_append,lI,if_pos h.1,Rx k r l (co++[c]) h.2,List.append_assoc,List.singleton_append]
theorem Vh:∀(cs:List UInt8)(Q:List Nat)(k:Nat),(∀c∈cs,eD c=false)->Q.length=cs.length+1->(∀n∈Q,n<=70000)->k+cs.length<=6->lI [] (mb cs Q) k=U Q
 |[],[n],k,_,_,h,z=>by
  have h0:lI [] (aQ n++[]) k=U [n]:=by rw[Rx k [] _ [] (yB n),vz,lI,UT n (h n (tP ..)),y9,if_pos (by simpa using z)]
  rw[List.append_nil]at h0;exact h0
 |c::cs,n::Q,k,H,hl,h,z=>by
  show lI [] (aQ n++c::mb cs Q) k=_;have uI:k+cs.length+1<=6:=by simpa[Nat.add_assoc]using z
  rw[Rx k _ _ [] (yB n),vz,lI,if_neg (by rw[H c (tP ..)];decide),UT n (h n (tP ..)),y9,if_pos (by omega),Vh cs Q (k+1) (fun d hd=>H d (vA _ hd)) (by simpa using hl) (fun m hm=>h m (vA _ hm)) (by omega)];rfl
 |[],[],_,_,hl,_,_=>by simp at hl
 |[],_::_::_,_,_,hl,_,_=>by simp at hl
 |_::_,[],_,_,hl,_,_=>by simp at hl
theorem Ls{s:List UInt8}{ip b lo hi:Nat}(h:ca s=U (ip,b,lo,hi)):lI [] s 0=U (gx ip b lo hi):=by obtain⟨bt,M,rfl⟩:=Fi h;obtain⟨q,h2,_⟩:=rM M;refine Vh eZ _ 0 abp J (fun n u=>?_) (by decide);simp only[gx,kh,xc,or_false]at u;omega
theorem Dx{s:List UInt8}(h:∀ip b lo hi,ca s=U (ip,b,lo,hi)->False):ca s=ab:=by
 cases hp:ca s with
  |none=>rfl
  |some x=>exact absurd hp (fun e=>h _ _ _ _ e)
end Go.Proofs.YtefdakbahplnbaaGreatDoor
namespace Go.Proofs.YtefdakbahplnbaaGreatDoor.Bp
end Go.Proofs.YtefdakbahplnbaaGreatDoor.Bp
namespace Go.Proofs.YtefdakbahplnbaaGreatDoor.Mm
open Go.Proofs.YtefdakbahplnbaaGreatDoor.Bp
open Go.RowKit
attribute[local go_sem]IN DH Il OL RR
def jI(m:MS)(B:Nat)(l:List UInt8):MS:=hJ (o2 m B true) (B*64) l
theorem apB(D:MB)(m:MS)(k:Nat)(s:ByteArray)(F:64<s.size):ap ae 231 #[av (U ⟨D.g,0,ab⟩),ad s] (ap_ D m k) fun e w'=>e=aq (az #[I ah 0,b8 43 (I R 1)])/\∃k',w'=ap_ D m k':=by go_enter func231,ntmps231;go_wp2;go_ret2;exact⟨J,k,J⟩
theorem agb(D:MB)(m:MS)(k B:Nat)(s:ByteArray)(F:s.size<=64)(GP:8<=B)(N:B<12)(Jl:∀n,8<=n->n<B->m.rd n=true)(yw:m.rd B=false):ap ae 231 #[av (U ⟨D.g,0,ab⟩),ad s] (ap_ D m k) fun e w'=>e=aq (az #[I ah ((B*64:Nat):Int), .nilIface])/\∃k',w'=ap_ D (jI m B s.data.toList) k':=by
 have S:=aa Jl;have HR:=aa yw;clear Jl yw;go_enter func231,ntmps231;go_wp2;go_loopw[6](fun bu w'=>∃n:Nat,8<=n/\n<=B/\bu=I R n/\w'=ap_ D m k)(fun bu _=>12-(intOf bu).toNat);case atStart=>exact⟨8,by omega,by omega,J,J⟩
 case round=>
  obtain⟨n,h8,eL,rfl,rfl⟩:=hrel;have c1:=t_ D m k n (by omega);by_cases am:n<B
  .rw[S.out n h8 am]at c1;go_wp2;go_round;case rel=>exact⟨n+1,by omega,by omega,by go_num,trivial⟩
   case measure=>simp[intOf];omega
  .obtain rfl:n=B:=by omega
   rw[HR.out]at c1;go_wp2_with(first|(go_at_call 256;refine(Nq n (by omega) _).mono ?_;rintro e w'⟨rfl,hw⟩;rw[hw];clear hw w')|(refine abv J _ _ J D _ _ n 0 _ s (by omega) (by omega) J J ?_));go_ret2;exact⟨J,k,by have e:s.data.toList.take s.size=s.data.toList:=li (by rw[<-dy];exact aA _);rw[e];rfl⟩
theorem ami(D:MB)(m:MS)(k:Nat)(s:ByteArray)(F:s.size<=64)(zV:∀n,8<=n->n<12->m.rd n=true):ap ae 231 #[av (U ⟨D.g,0,ab⟩),ad s] (ap_ D m k) fun e w'=>e=aq (az #[I ah 0,b8 43 (I R 9)])/\∃k',w'=ap_ D m k':=by
 have S:=aa zV;clear zV;go_enter func231,ntmps231;go_wp2;go_loopw[6](fun bu w'=>∃n:Nat,8<=n/\n<=12/\bu=I R n/\w'=ap_ D m k)(fun bu _=>12-(intOf bu).toNat);case atStart=>exact⟨8,by omega,by omega,J,J⟩
 case round=>
  obtain⟨n,h8,eL,rfl,rfl⟩:=hrel;by_cases am:n<12
  .have c1:=t_ D m k n am;rw[S.out n h8 am]at c1;go_wp2;go_round;case rel=>exact⟨n+1,by omega,by omega,by go_num,trivial⟩
   case measure=>simp[intOf];omega
  .obtain rfl:n=12:=by omega
   go_wp2;go_ret2;exact⟨J,k,J⟩
end Go.Proofs.YtefdakbahplnbaaGreatDoor.Mm
namespace Go.Proofs.YtefdakbahplnbaaGreatDoor.Bp
end Go.Proofs.YtefdakbahplnbaaGreatDoor.Bp
namespace Go.Proofs.YtefdakbahplnbaaGreatDoor.Mm
open Go.Proofs.YtefdakbahplnbaaGreatDoor.Bp
open Go.RowKit
def ey(m:MS)(a:Nat):Option Nat:=if a<768/\m.rd (a/64)=true then U (m.ei a)else ab
def Ai:Option Nat->ag|ab=>az #[I aM 0,b8 43 (I R 5)]|U x=>az #[I aM x, .nilIface]
theorem amp(D:MB)(m:MS)(k a:Nat)(ha:a<18446744073709551616):ap ae 186 #[av (U ⟨D.g,0,ab⟩),I ah a] (ap_ D m k) fun e w'=>e=aq (Ai (ey m a))/\w'=ap_ D m k:=by
 unfold ey;by_cases h:a<768
 .cases L:m.rd (a/64)with
   |false=>rw[if_neg (by rintro⟨_,h2⟩;cases h2)];exact aeS D m k a h L
   |true=>rw[if_pos ⟨h,J⟩];exact aom D m k a h L
 .rw[if_neg (fun e=>h e.1)];exact amx D m k a (by omega) ha
theorem apM(D:MB)(m:MS)(k:Nat)(a n:Int)(u:n<0\/512<n):ap ae 233 #[av (U ⟨D.g,0,ab⟩),I ah a,I R n] (ap_ D m k) fun e w'=>e=aq (az #[ad ⟨#[]⟩,b8 43 (I R 1)])/\w'=ap_ D m k:=by
 by_cases h0:n<0;.go_enter func233,ntmps233;go_wp2;go_ret2;exact⟨J,J⟩
 .go_enter func233,ntmps233;go_wp2;go_ret2;exact⟨J,J⟩
theorem aqm:∃i,ae.info? 5=U i/\i.zero=U (I aM 0)/\i.size=1/\i.bytes=1:=by
 have hz:(ae.info? 5).map (·.zero)=U (U (I aM 0)):=by kernel_rfl
 have F:(ae.info? 5).map (·.size)=U 1:=by kernel_rfl
 have hb:(ae.info? 5).map (·.bytes)=U 1:=by kernel_rfl
 cases N:ae.info? 5 with
  |none=>rw[N]at F;simp at F
  |some i=>rw[N]at hz F hb;simp at hz F hb;exact⟨i,J,hz,F,hb⟩
theorem amd(n:Nat):madeCells (I aM 0).cells n=VA n fun _=>I aM 0:=by
 apply Array.ext_getElem?;intro i;by_cases h:i<n;.rw[km n _ i h];simp[madeCells,Value.cells,h,Nat.mod_one]
 .have e1:(madeCells (I aM 0).cells n)[i]?=ab:=by simp[size_madeCells];omega
  rw[e1,DF n _ i h]
theorem aiW{a_:Array Oper}{rest:List Oper}{o:Oper}{a:Act}{w:ac}{aE:Exit->Act->ac->Prop}(de:o.guard=ab)(x al:Operand)(ho:o.op= .makeSlice 134 x al)(n:Nat)(hx:a.eval x=I R n)(hy:a.eval al=I R n)(u:n<=10000)(h:wpList ae a_ aE rest (a.put o.dst (ak (U ⟨w.heap.size,0,ab⟩) n n)) (w.alloc (.cells (VA n fun _=>I aM 0) 5))):wpList ae a_ aE (o::rest) a w:=by obtain⟨i,hi,hz,F,hb⟩:=aqm;have L:=run_make (P:=ae) w 134 5 i _ underlying134 hi hz R R (n:Int) (n:Int) (by omega) (by omega) (by rw[hb];omega) (by omega);rw[F,d_,Nat.mul_one,amd]at L;refine wpList_plain de fun _ A=>?_;unfold Oper.wp execOp;simp only[ho,hx,hy,Sem.run_bind,L,tW];exact A _ _ h
def ch(a i:Nat):Nat:=(a+i)%18446744073709551616
def h1(m:MS)(a:Nat):Nat->Option (List Nat)|0=>U []|n+1=>(h1 m a n).bind fun l=>(ey m (ch a n)).map fun x=>l++[x]
theorem Ql{g:Nat}{m:MS}{W:ac}(h:fp g m W)(a:Nat)(ha:a<18446744073709551616):ap ae 186 #[av (U ⟨g,0,ab⟩),I ah a] W fun e w'=>e=aq (Ai (ey m a))/\w'=W:=by have hb:=amp ⟨W,g,m,h⟩ m 0 a ha;rw[<-Xz h]at hb;exact hb
def GW(W:ac)(n:Nat)(f:Nat->ag):ac:=W.alloc (.cells (VA n f) 5)
theorem Qq(W:ac)(n:Nat)(f:Nat->ag):(GW W n f).heap[W.heap.size]?=U (.cells (VA n f) 5 (0,0)):=a7 W _
theorem af7{g:Nat}{m:MS}{W:ac}(h:fp g m W)(n:Nat)(f:Nat->ag):fp g m (GW W n f):=(AU W _ (h:=(bM.1 h).1)).trans h
theorem XE(W:ac)(n:Nat)(f:Nat->ag)(i:Nat)(hi:i<n):(GW W n f).cell? ⟨W.heap.size,i,ab⟩=U (f i):=by rw[aT _ _ i _ _ _ (Qq W n f),km n f i hi]
theorem aie(W:ac)(n:Nat)(f:Nat->ag)(i:Nat):(GW W n f).frozen? ⟨W.heap.size,i,ab⟩=false:=cy _ _ i _ _ (Qq W n f)
theorem ajY(W:ac)(n:Nat)(f:Nat->ag)(i:Nat)(v:ag):(GW W n f).setCell ⟨W.heap.size,i,ab⟩ v=GW W n (e0 f i v):=by rw[cJ _ _ i _ _ _ _ (Qq W n f),qu];exact World.setRow_alloc_new W _ _ _
theorem aaZ(W:ac)(n:Nat)(f:Nat->ag):Below W.heap.size W (GW W n f):=(aS _ _).alloc (aA _) _
def j5(l:List Nat):Nat->ag:=fun j=>I aM (l.getD j 0)
theorem aaO(l:List Nat)(x:Nat):e0 (j5 l) l.length (I aM x)=j5 (l++[x]):=by
 funext j;unfold e0 j5;rw[cI,cI,List.getElem?_append];by_cases h:j=l.length;.subst h;simp
 .rw[if_neg h];by_cases h2:j<l.length;.rw[if_pos h2]
  .rw[if_neg h2,C1 (by omega),C1 (by simp;omega)]
def e5(l:List Nat):List UInt8:=l.map bB
def QT:Option (List Nat)->ag|ab=>az #[ad ⟨#[]⟩,b8 43 (I R 5)]|U l=>az #[ad ⟨(e5 l).toArray⟩, .nilIface]
theorem abL{m:MS}{a:Nat}:∀{n:Nat}{l:List Nat},h1 m a n=U l->l.length=n|0,l,h=>by rw[<-dG h];rfl|n+1,l,h=>by rw[h1,acp]at h;obtain⟨nt,q,h2⟩:=h;rw[qh]at h2;obtain⟨x,_,rfl⟩:=h2;rw[cl,abL q];rfl
theorem Xy{m:MS}{a i:Nat}(h:h1 m a i=ab):∀n,i<=n->h1 m a n=ab
 |0,u=>by rw[show i=0 by omega]at h;exact h
 |n+1,u=>by
  by_cases he:i=n+1;.rw[<-he];exact h
  .rw[h1,Xy h n (by omega)];rfl
theorem Ua{m:MS}(am:∀x,m.ei x<256){a:Nat}:∀{n:Nat}{l:List Nat},h1 m a n=U l->∀x∈l,x<256
 |0,l,h=>by rw[<-dG h];intro x hx;cases hx
 |n+1,l,h=>by
  rw[h1,acp]at h;obtain⟨nt,q,h2⟩:=h;rw[qh]at h2;obtain⟨al,hy,rfl⟩:=h2;intro x hx;rcases jC.1 hx with h3|h3;.exact Ua am q x h3
  .rw[jB.1 h3];unfold ey at hy;split at hy;.rw[<-dG hy];exact am _
   .cases hy
theorem Wy(l:List Nat)(j:Nat)(q:j<(e5 l).length)(h2:j<l.length):(e5 l)[j]=bB l[j]:=by simp[e5]
theorem aj3(W:ac)(l:List Nat)(hl:∀x∈l,x<256):(convert 134 9 (ak (U ⟨W.heap.size,0,ab⟩) l.length l.length)).run ae (GW W l.length (j5 l))= .ok (ad ⟨(e5 l).toArray⟩) (GW W l.length (j5 l)):=by
 have hb:(e5 l).length=l.length:=by unfold e5;rw[oB]
 have h:=xh (P:=ae) (GW W l.length (j5 l)) 134 9 5 ⟨W.heap.size,0,ab⟩ l.length (e5 l) underlying134 underlying5 underlying9 fun j hj=>by
  have nz:j<l.length:=by rw[hb]at hj;exact hj
  rw[show(⟨W.heap.size,0,ab⟩:Addr).add j=⟨W.heap.size,j,ab⟩by simp[Addr.add];omega,XE W _ _ j nz];unfold j5;rw[Wy l j hj nz,cI,cq nz];have hx:=hl _ (vH nz);rw[vE,mT,jg (show l[j]<2^8 from hx)]
 rw[hb]at h;exact h
theorem ajI{g:Nat}{m:MS}{W:ac}(hM:fp g m W)(a n:Nat)(ha:a<18446744073709551616)(u:n<=512)(am:∀x,m.ei x<256):ap ae 233 #[av (U ⟨g,0,ab⟩),I ah a,I R n] W fun e w'=>e=aq (QT (h1 m a n))/\Below W.heap.size W w':=by
 have HA:=aa ha;have qJ:=aa am;have HM:=aa hM;clear ha am hM;obtain⟨o7,gq⟩:∃x:Int,x=(a:Int):=⟨_,J⟩;rw[<-gq];have mo:=aa gq;clear gq;go_enter func233,ntmps233;go_wp2_with(refine aiW J _ _ J n ?_ ?_ (by omega) ?_;(.rfl);(.rfl));go_loopw[22](fun aL w'=>∃(i:Nat)(l:List Nat),i<=n/\aL=I R i/\l.length=i/\w'=GW W n (j5 l)/\Hid (h1 m a i=U l))(fun aL _=>n-(intOf aL).toNat);case atStart=>exact⟨0,[],by omega,J,J,J,aa J⟩
 case round=>
  obtain⟨i,l,hi,rfl,lT,rfl,HG⟩:=hrel;by_cases am:i<n
  .obtain⟨x,hx⟩:∃x:Int,x=((ch a i:Nat):Int):=⟨_,J⟩;have hw:ah.wrap (o7+i)=x:=by rw[jQ,mo.out,hx];unfold ch;omega
   have G:=Ql (af7 HM.out n (j5 l)) (ch a i) (vD _ (by decide));rw[<-hx]at G;have cL:=aa (show h1 m a (i+1)=(ey m (ch a i)).map fun x=>l++[x]by rw[h1,HG.out];rfl);clear hx;cases hp:ey m (ch a i)with
    |none=>have HV:=aa (show h1 m a n=ab from Xy (by rw[cL.out,hp];rfl) n (show i+1<=n by omega));rw[hp]at G;simp only[Ai]at G;go_wp2_with(go_at_call 186;refine G.mono ?_;rintro e w'⟨rfl,dK⟩;rw[dK];clear dK w');go_ret2;exact⟨by rw[HV.out];rfl,aaZ _ _ _⟩
    |some al=>
     rw[hp]at G cL;simp only[Ai]at G;have c1:=XE W n (j5 l) i am;have c2:=aie W n (j5 l);have c3:=ajY W n (j5 l) i (I aM al);go_wp2_with(go_at_call 186;refine G.mono ?_;rintro e w'⟨rfl,dK⟩;rw[dK];clear dK w');go_round;case rel=>exact⟨i+1,l++[al],by omega,by go_num,by rw[cl,lT];rfl,by rw[<-aaO,lT],cL⟩
     case measure=>simp[intOf];omega
  .obtain rfl:i=n:=by omega
   have j0:=aj3 W l (fun x hx=>Ua qJ.out HG.out x hx);rw[lT]at j0;go_wp2;go_ret2;exact⟨by rw[HG.out];rfl,aaZ _ _ _⟩
end Go.Proofs.YtefdakbahplnbaaGreatDoor.Mm
namespace Go.Proofs.YtefdakbahplnbaaGreatDoor.Bp
end Go.Proofs.YtefdakbahplnbaaGreatDoor.Bp
namespace Go.Proofs.YtefdakbahplnbaaGreatDoor.Mm
open Go.Proofs.YtefdakbahplnbaaGreatDoor.Bp
open Go.RowKit
attribute[local go_sem]IN DH Il
def Zz:ag->Nat|ad s=>s.size|_=>0
def qR(m:MS)(x:Nat):Prop:=x<768/\m.wt (x/64)=true
theorem aaX(g a:Nat)(ha:a<18446744073709551616)(w:ac):ap ae 140 #[av (U ⟨g,0,ab⟩),I ah a] w fun e w'=>e=aq (if a<768 then az #[av (U ⟨g,a/64*66,ab⟩),I R (a%64:Nat)]else az #[av ab,I R 0])/\w'=w:=by
 by_cases h:a<768;.rw[if_pos h];exact K9 g a h w
 .rw[if_neg h];exact Zh g a (by omega) ha w
theorem ajb(D:MB)(m:MS)(k a:Nat)(s:ByteArray)(F:s.size<4294967296)(Ge:∃i,i<s.size/\¬qR m (ch a i)):ap ae 99 #[av (U ⟨D.g,0,ab⟩),I ah a,ad s] (ap_ D m k) fun e w'=>e=aq (b8 43 (I R 5))/\∃k',w'=ap_ D m k':=by
 have ak9:=aa Ge;clear Ge;obtain⟨o7,gq⟩:∃x:Int,x=(a:Int):=⟨_,J⟩;rw[<-gq];have mo:=aa gq;clear gq;go_enter func99,ntmps99;go_wp2;go_loopw[15](fun aL w'=>∃i:Nat,i<=s.size/\aL=I R i/\w'=ap_ D m k/\Hid (∀j,j<i->qR m (ch a j)))(fun aL _=>s.size-(intOf aL).toNat);case atStart=>exact⟨0,by omega,J,J,aa (fun j hj=>by omega)⟩
 case round=>
  obtain⟨i,hi,rfl,rfl,HG⟩:=hrel;by_cases am:i<s.size
  .obtain⟨al,hy⟩:=af (ch a i);obtain⟨x,hx⟩:∃x:Int,x=(al:Int):=⟨_,J⟩;have hw:ah.wrap (o7+i)=x:=by rw[jQ,mo.out,hx,hy];unfold ch;omega
   have G:=fun w=>aaX D.g al (by rw[hy];exact vD _ (by decide)) w;rw[<-hx]at G;have HX:=aa hx;have HY:=aa hy;clear hx hy;by_cases dV:al<768
   .have c1:=Kx D m k (al/64) (by omega);simp only[if_pos dV]at G;cases L:m.wt (al/64)with
     |false=>rw[L]at c1;clear L;go_wp2_with(go_at_call 140;refine(G _).mono ?_;rintro e w'⟨rfl,dK⟩;rw[dK];clear dK w');go_ret;exact⟨J,k,J⟩
     |true=>
      have cL:=aa (show∀j,j<i+1->qR m (ch a j)from fun j hj=>by
       by_cases h:j<i;.exact HG.out j h
       .rw[show j=i by omega,<-HY.out];exact⟨dV,L⟩);rw[L]at c1;clear L;go_wp2_with(go_at_call 140;refine(G _).mono ?_;rintro e w'⟨rfl,dK⟩;rw[dK];clear dK w');go_round;case rel=>exact⟨i+1,by omega,by go_num,trivial,cL⟩
      case measure=>simp[intOf];omega
   .simp only[if_neg dV]at G;go_wp2_with(go_at_call 140;refine(G _).mono ?_;rintro e w'⟨rfl,dK⟩;rw[dK];clear dK w');go_ret;exact⟨J,k,J⟩
  .obtain rfl:i=s.size:=by omega
   obtain⟨j,hj,hb⟩:=ak9.out;exact absurd (HG.out j hj) hb
theorem We(m:MS)(a:Nat):hJ m a []=m:=by
 unfold hJ;have:(fun x=>if a<=x/\x<a+([]:List UInt8).length then(([]:List UInt8).getD (x-a) 0).toNat else m.ei x)=m.ei:=by funext x;rw[if_neg (by simp)]
 rw[this]
theorem ajW(m:MS)(a:Nat)(l1 l2:List UInt8):hJ (hJ m a l1) (a+l1.length) l2=hJ m a (l1++l2):=by
 unfold hJ;congr 1;funext x;show(if a+l1.length<=x/\x<a+l1.length+l2.length then(l2.getD (x-(a+l1.length)) 0).toNat else if a<=x/\x<a+l1.length then(l1.getD (x-a) 0).toNat else m.ei x)=if a<=x/\x<a+(l1++l2).length then((l1++l2).getD (x-a) 0).toNat else m.ei x;rw[cl];by_cases q:a+l1.length<=x/\x<a+l1.length+l2.length;.rw[if_pos q,if_pos (by omega),cI,cI,List.getElem?_append_right (by omega),show x-a-l1.length=x-(a+l1.length)by omega]
 .rw[if_neg q];by_cases h2:a<=x/\x<a+l1.length;.rw[if_pos h2,if_pos (by omega),cI,cI,List.getElem?_append_left (by omega)]
  .rw[if_neg h2,if_neg (by omega)]
theorem WQ{m:MS}{a n:Nat}(ha:a<18446744073709551616)(h:∀i,i<n->qR m (ch a i))(h0:0<n):a+n<=768:=by
 have q:=(h 0 h0).1;unfold ch at q;rw[Nat.add_zero,jg ha]at q;rcases FN 768 (a+n)with h2|h2;.have h3:=(h (768-a) (by omega)).1;unfold ch at h3;rw[show a+(768-a)=768 by omega]at h3;exact absurd h3 (by decide)
 .exact h2
theorem afG(g al:Nat)(W:ac):(Instr.sliceAt 60 (av (U ⟨g,al/64*66,ab⟩)) (U (I R ((al:Int)%64))) ab ab).run ae W= .ok (ak (U ⟨g,al/64*66+al%64,ab⟩) (64-al%64) (64-al%64)) W:=by
 have jN:ae.arrayLen 60=64:=by kernel_rfl
 rw[run_sliceAt_array_l W 60 ⟨g,al/64*66,ab⟩ (by kernel_rfl) R ((al:Int)%64) (by omega) (by rw[jN];omega)];rw[jN,show ae.elem 60=5 by kernel_rfl,sizeOf5 W,tW,show((al:Int)%64).toNat=al%64 by omega];unfold slicedAt;rw[Nat.mul_one,if_neg (by omega)];have e:(⟨g,al/64*66,ab⟩:Addr).add (al%64)=⟨g,al/64*66+al%64,ab⟩:=by
  by_cases h:al%64=0;.rw[h];simp[Addr.add]
  .simp[Addr.add,h]
 rw[e]
set_option maxRecDepth 20000 in theorem alM(D:MB)(m:MS)(k a:Nat)(s:ByteArray)(ha:a<18446744073709551616)(F:s.size<4294967296)(eT:∀i,i<s.size->qR m (ch a i)):ap ae 99 #[av (U ⟨D.g,0,ab⟩),I ah a,ad s] (ap_ D m k) fun e w'=>e=aq .nilIface/\∃k',w'=ap_ D (hJ m a s.data.toList) k':=by
 have ue:=aa eT;have ah1:=aa (WQ ha eT);clear eT ha;obtain⟨o7,gq⟩:∃x:Int,x=(a:Int):=⟨_,J⟩;rw[<-gq];have mo:=aa gq;clear gq;go_enter func99,ntmps99;go_wp2;go_loopw[15](fun aL w'=>∃i:Nat,i<=s.size/\aL=I R i/\w'=ap_ D m k/\Hid (∀j,j<i->qR m (ch a j)))(fun aL _=>s.size-(intOf aL).toNat);case atStart=>exact⟨0,by omega,J,J,aa (fun j hj=>by omega)⟩
 case round=>
  obtain⟨i,hi,rfl,rfl,HG⟩:=hrel;by_cases am:i<s.size
  .obtain⟨al,hy⟩:=af (ch a i);obtain⟨x,hx⟩:∃x:Int,x=(al:Int):=⟨_,J⟩;have hw:ah.wrap (o7+i)=x:=by rw[jQ,mo.out,hx,hy];unfold ch;omega
   have G:=fun w=>aaX D.g al (by rw[hy];exact vD _ (by decide)) w;rw[<-hx]at G;have HX:=aa hx;have HY:=aa hy;clear hx hy;obtain⟨dV,L⟩:=ue.out i am;rw[<-HY.out]at dV L;have c1:=Kx D m k (al/64) (by omega);simp only[if_pos dV]at G;have cL:=aa (show∀j,j<i+1->qR m (ch a j)from fun j hj=>ue.out j (by omega));rw[L]at c1;clear L;go_wp2_with(go_at_call 140;refine(G _).mono ?_;rintro e w'⟨rfl,dK⟩;rw[dK];clear dK w');go_round;case rel=>exact⟨i+1,by omega,by go_num,trivial,cL⟩
   case measure=>simp[intOf];omega
  .obtain rfl:i=s.size:=by omega
   go_wp2;go_loopw[1,2](fun br eG w'=>∃(t:Nat)(x:Int)(aI:ByteArray),t<=s.size/\br=I ah x/\eG=ad aI/\aI.size=s.size-t/\w'=ap_ D (hJ m a (s.data.toList.take t)) k/\Hid (x=((a+t:Nat):Int))/\Hid (aI.data.toList=s.data.toList.drop t))(fun _ eG _=>Zz eG);case atStart=>exact⟨0,o7,s,by omega,J,J,by omega,by rw[CZ,We],aa mo.out,aa (by rw[List.drop_zero])⟩
   case round=>
    obtain⟨t,x,aI,ht,rfl,rfl,hz,rfl,HX,HZ⟩:=hrel;by_cases am:t<s.size
    .have O5:a+s.size<=768:=ah1.out (by omega);obtain⟨al,hy⟩:=af (a+t);have hy7:al<768:=by omega
     have G:=fun w=>K9 D.g al hy7 w;rw[show((al:Nat):Int)=x by rw[HX.out,hy]]at G;have HY:=aa hy;clear hy;have fP:=afG D.g al;go_wp2_with(first|(go_at_call 140;refine(G _).mono ?_;rintro e w'⟨rfl,dK⟩;rw[dK];clear dK w')|(refine abv J _ _ J D _ _ (al/64) (al%64) _ aI ?_ ?_ ?_ ?_ ?_;(.omega);(.omega);(.rfl);(.rfl)));have QH:=ZF D (hJ m a (s.data.toList.take t)) k (al/64) (al%64) (64-al%64) 3 aI (by omega) (by omega);rw[QH];simp only[Result.andThen];rw[Oper.upon_value];clear QH fP G;obtain⟨B,N⟩:=af (Nat.min aI.size (64-al%64));have pw:B<=aI.size:=by rw[N];exact Nat.min_le_left _ _
     have DZ:B<=64-al%64:=by rw[N];exact Nat.min_le_right _ _
     have OQ:0<B:=by rw[N];exact Nat.lt_min.2 ⟨by omega,by omega⟩
     rw[<-N];clear N;have hx7:0<=x/\x<768:=by rw[HX.out,<-HY.out];omega
     have lT:(s.data.toList.take t).length=t:=by rw[List.length_take,<-dy];omega
     have HW:=aa (show hJ (hJ m a (s.data.toList.take t)) (al/64*64+al%64) (aI.data.toList.take B)=hJ m a (s.data.toList.take (t+B))by have q:=ajW m a (s.data.toList.take t) ((s.data.toList.drop t).take B);rw[lT,<-HZ.out,<-HY.out]at q;rw[show al/64*64+al%64=al by omega,q,HZ.out,<-List.take_add]);go_wp2;go_round;case rel=>
      refine⟨t+B,x+B,_,by omega,J,J,?_,by rw[HW.out],aa (by rw[HX.out];omega),aa ?_⟩;.simp;omega
      .rw[Lib.extract_data,HZ.out,List.drop_drop,li (by rw[List.length_drop,<-dy];omega)]
     case measure=>simp[Zz];omega
    .obtain rfl:t=s.size:=by omega
     have dh:aI.size=0:=by omega
     have HE:=aa (show s.data.toList.take s.size=s.data.toList from li (by rw[<-dy];exact aA _));go_wp2;go_ret;exact⟨J,k,by rw[HE.out]⟩
end Go.Proofs.YtefdakbahplnbaaGreatDoor.Mm
namespace Go.Proofs.YtefdakbahplnbaaGreatDoor.Bp
end Go.Proofs.YtefdakbahplnbaaGreatDoor.Bp
namespace Go.Proofs.YtefdakbahplnbaaGreatDoor.Mm
open Go.Proofs.YtefdakbahplnbaaGreatDoor.Bp
open Go.RowKit
def pv(m m':MS):Prop:=(∀n,8<=n->m'.rd n=m.rd n/\m'.wt n=m.wt n)/\∀x,512<=x->m'.ei x=m.ei x
theorem Jg(m:MS):pv m m:=⟨fun _ _=>⟨J,J⟩,fun _ _=>J⟩
theorem ac8{a b c:MS}(h:pv a b)(g:pv b c):pv a c:=⟨fun n u=>⟨(g.1 n u).1.trans (h.1 n u).1,(g.1 n u).2.trans (h.1 n u).2⟩,fun x hx=>(g.2 x hx).trans (h.2 x hx)⟩
theorem al_(m:MS)(n:Nat)(u:n<8)(b:Bool):pv m (px (o2 m n true) n b):=⟨fun k z=>⟨if_neg (by omega),if_neg (by omega)⟩,fun _ _=>J⟩
theorem abc(m:MS)(a:Nat)(l:List UInt8)(h:a+l.length<=512):pv m (hJ m a l):=⟨fun _ _=>⟨J,J⟩,fun x hx=>if_neg (by omega)⟩
theorem ac'(m:MS)(n:Nat)(u:n<8):pv m (pM m n):=ac8 (b:=px (o2 m n false) n false) ⟨fun k z=>⟨if_neg (by omega),if_neg (by omega)⟩,fun _ _=>J⟩ (abc _ _ _ (by rw[Le];omega))
theorem ai4(m:MS)(a:Nat)(l:List UInt8)(ha:a<18446744073709551616)(hw:∀n,8<=n->n<12->m.wt n=false)(hg:∀i,i<l.length->qR m (ch a i)):pv m (hJ m a l):=by
 by_cases h0:0<l.length
 .have M:=WQ ha hg h0;refine abc m a l ?_;rcases FN 512 (a+l.length)with h|h;.obtain⟨q,h2⟩:=hg (l.length-1) (by omega);unfold ch at q h2;rw[jg (by omega)]at q h2;rw[hw _ (by omega) (by omega)]at h2;cases h2
  .exact h
 .obtain rfl:l=[]:=List.eq_nil_of_length_eq_zero (by omega);rw[We];exact Jg m
def nd(m:MS):Prop:=∀x,m.ei x<256
theorem Wx{m:MS}(h:nd m)(a:Nat)(l:List UInt8):nd (hJ m a l):=fun x=>by
 show(if _ then _ else _)<256;split;.exact UInt8.toNat_lt _
 .exact h x
theorem anQ:nd wY:=fun _=>Nat.zero_lt_succ 255
end Go.Proofs.YtefdakbahplnbaaGreatDoor.Mm
namespace Go.Proofs.YtefdakbahplnbaaGreatDoor.Bp
end Go.Proofs.YtefdakbahplnbaaGreatDoor.Bp
namespace Go.Proofs.YtefdakbahplnbaaGreatDoor.Mm
open Go.Proofs.YtefdakbahplnbaaGreatDoor.Bp
open Go.RowKit
attribute[local go_sem]IN DH Il
structure xt(m:MS):Prop where
 bytes:nd m
 wt:∀n,8<=n->n<12->m.wt n=false
theorem alY{m m':MS}(h:xt m)(hh:pv m m')(hb:nd m->nd m'):xt m':=⟨hb h.bytes,fun n h8 eL=>((hh.1 n h8).2).trans (h.wt n h8 eL)⟩
end Go.Proofs.YtefdakbahplnbaaGreatDoor.Mm
namespace Go.Proofs.YtefdakbahplnbaaGreatDoor.Bp
end Go.Proofs.YtefdakbahplnbaaGreatDoor.Bp
namespace Go.Proofs.YtefdakbahplnbaaGreatDoor.Mm
open Go.Proofs.YtefdakbahplnbaaGreatDoor.Bp
open Go.RowKit
theorem ald:xt wY:=⟨anQ,fun _ _ _=>J⟩
theorem Wh{m:MS}{a:Nat}{l:List Nat}:∀n,n<=l.length->(∀i,i<n->ey m (ch a i)=U (l.getD i 0))->h1 m a n=U (l.take n)|0,_,_=>by rw[h1,CZ]|n+1,hl,h=>by rw[h1,Wh n (by omega) fun i hi=>h i (by omega),y9,h n (by omega),Option.map_some,List.take_add_one,cI,cq (show n<l.length by omega)];rfl
theorem aaA(l:List UInt8):e5 (l.map tO)=l:=by
 unfold e5;rw[List.map_map];conv=>rhs;rw[<-List.map_id l]
 exact List.map_congr_left fun x _=>by simp
theorem ag7{m:MS}{B:Nat}{l:List UInt8}(N:B<12)(hl:l.length<=64)(L:m.rd B=true)(hb:∀i,i<l.length->m.ei (B*64+i)=(l.getD i 0).toNat):h1 m (B*64) l.length=U (l.map tO):=by
 have h:=Wh (m:=m) (a:=B*64) (l:=l.map tO) l.length (by simp) fun i hi=>by unfold ey ch;rw[jg (by omega),if_pos ⟨by omega,by rw[show(B*64+i)/64=B by omega];exact L⟩,hb i hi];congr 1;rw[cI,cI,List.getElem?_map];cases l[i]?<;>rfl
 rw[h,li (by simp)]
theorem aka(m:MS)(B n:Nat)(l:List UInt8):(jI m B l).rd n=if n=B then true else m.rd n:=rfl
theorem anC(m:MS)(B n:Nat):(pM m B).rd n=if n=B then false else m.rd n:=rfl
end Go.Proofs.YtefdakbahplnbaaGreatDoor.Mm
namespace Go.Proofs.YtefdakbahplnbaaGreatDoor.Bp
end Go.Proofs.YtefdakbahplnbaaGreatDoor.Bp
namespace Go.Proofs.YtefdakbahplnbaaGreatDoor.Mm
open Go.Proofs.YtefdakbahplnbaaGreatDoor.Bp
open Go.RowKit
def aqq(p:Nat->Option Nat)(a:Nat):Nat->Nat->List Nat->Nat×List Nat|0,_,_=>(6,[])|f+1,i,l=>match p (ch a i)with|ab=>(5,[])|U x=>if x=0 then(0,l)else aqq p a f (i+1) (l++[x])
def aqr(r:Nat×List Nat):ag:=az #[ad ⟨(e5 r.2).toArray⟩,if r.1=0 then .nilIface else b8 43 (I R r.1)]
def TW(W:ac)(f:Nat->ag):ac:=W.alloc (.cells (VA 40 f) 334)
theorem Tk(W:ac)(f:Nat->ag):(TW W f).heap[W.heap.size]?=U (.cells (VA 40 f) 334 (0,0)):=a7 W _
theorem air{g:Nat}{m:MS}{W:ac}(h:fp g m W)(f:Nat->ag):fp g m (TW W f):=(AU W _ (h:=(bM.1 h).1)).trans h
theorem UG(W:ac)(f:Nat->ag)(i:Nat)(hi:i<40):(TW W f).cell? ⟨W.heap.size,i,ab⟩=U (f i):=by rw[aT _ _ i _ _ _ (Tk W f),km 40 f i hi]
theorem al'(W:ac)(f:Nat->ag)(i:Nat):(TW W f).frozen? ⟨W.heap.size,i,ab⟩=false:=cy _ _ i _ _ (Tk W f)
theorem af0(W:ac)(f:Nat->ag)(i:Nat)(v:ag):(TW W f).setCell ⟨W.heap.size,i,ab⟩ v=TW W (e0 f i v):=by rw[cJ _ _ i _ _ _ _ (Tk W f),qu];exact World.setRow_alloc_new W _ _ _
theorem N'(W:ac)(f:Nat->ag):Below W.heap.size W (TW W f):=(aS _ _).alloc (aA _) _
theorem amQ:(#[I aM 0,I aM 0,I aM 0,I aM 0,I aM 0,I aM 0,I aM 0,I aM 0,I aM 0,I aM 0,I aM 0,I aM 0,I aM 0,I aM 0,I aM 0,I aM 0,I aM 0,I aM 0,I aM 0,I aM 0,I aM 0,I aM 0,I aM 0,I aM 0,I aM 0,I aM 0,I aM 0,I aM 0,I aM 0,I aM 0,I aM 0,I aM 0,I aM 0,I aM 0,I aM 0,I aM 0,I aM 0,I aM 0,I aM 0,I aM 0]:Array ag)=VA 40 (j5 []):=by rw[yV];kernel_rfl
theorem af4(W:ac)(l:List Nat)(hl:∀x∈l,x<256)(nB:l.length<=40):(convert 134 9 (ak (U ⟨W.heap.size,0,ab⟩) l.length 40)).run ae (TW W (j5 l))= .ok (ad ⟨(e5 l).toArray⟩) (TW W (j5 l)):=by
 have hb:(e5 l).length=l.length:=by unfold e5;rw[oB]
 have h:=xh (P:=ae) (TW W (j5 l)) 134 9 5 ⟨W.heap.size,0,ab⟩ 40 (e5 l) underlying134 underlying5 underlying9 fun j hj=>by
  have nz:j<l.length:=by rw[hb]at hj;exact hj
  rw[show(⟨W.heap.size,0,ab⟩:Addr).add j=⟨W.heap.size,j,ab⟩by simp[Addr.add];omega,UG W _ j (by omega)];unfold j5;rw[Wy l j hj nz,cI,cq nz];have hx:=hl _ (vH nz);rw[vE,mT,jg (show l[j]<2^8 from hx)]
 rw[hb]at h;exact h
theorem ac7(g i:Nat)(hi:i<=40)(W:ac):(Instr.sliceAt 334 (av (U ⟨g,0,ab⟩)) ab (U (I R (i:Int))) ab).run ae W= .ok (ak (U ⟨g,0,ab⟩) i 40) W:=by
 have jN:ae.arrayLen 334=40:=by kernel_rfl
 rw[run_sliceAt_array_h W 334 ⟨g,0,ab⟩ (by kernel_rfl) R (i:Int) (by omega) (by rw[jN];omega)];rw[jN,show ae.elem 334=5 by kernel_rfl,sizeOf5 W,tW,d_];unfold slicedAt;simp[Addr.add]
set_option maxRecDepth 20000 in theorem aqs{g:Nat}{m:MS}{W:ac}(hM:fp g m W)(a:Nat)(_ha:a<18446744073709551616)(am:∀x,m.ei x<256):ap ae 232 #[av (U ⟨g,0,ab⟩),I ah a] W fun e w'=>e=aq (aqr (aqq (ey m) a 41 0 []))/\Below W.heap.size W w':=by
 have qJ:=aa am;have HM:=aa hM;clear _ha am hM;obtain⟨o7,gq⟩:∃x:Int,x=(a:Int):=⟨_,J⟩;rw[<-gq];have mo:=aa gq;clear gq;obtain⟨bd,hR⟩:=af (aqq (ey m) a 41 0 []);rw[<-hR];replace hR:=aa hR;go_enter func232,ntmps232;go_wp2_with fail;rw[amQ];go_loopw[10](fun aL w'=>∃(i:Nat)(l:List Nat),i<=41/\aL=I R i/\w'=TW W (j5 l)/\Hid ((i<=40->l.length=i)/\l.length<=40/\aqq (ey m) a (41-i) i l=bd/\∀x∈l,x<256))(fun aL _=>41-(intOf aL).toNat);case atStart=>exact⟨0,[],by omega,J,J,aa ⟨fun _=>J,by decide,hR.out.symm,fun x hx=>by cases hx⟩⟩
 case round=>
  obtain⟨i,l,hi,rfl,rfl,HG⟩:=hrel;by_cases am:i<41
  .obtain⟨x,hx⟩:∃x:Int,x=((ch a i:Nat):Int):=⟨_,J⟩;have hw:ah.wrap (o7+i)=x:=by rw[jQ,mo.out,hx];unfold ch;omega
   have G:=Ql (air HM.out (j5 l)) (ch a i) (vD _ (by decide));rw[<-hx]at G;clear hx;have hG:=HG.out;rw[show 41-i=(41-(i+1))+1 by omega,aqq]at hG;cases hp:ey m (ch a i)with
    |none=>rw[hp]at G hG;simp only[Ai]at G hG;replace hG:=aa hG;go_wp2_with(go_at_call 186;refine G.mono ?_;rintro e w'⟨rfl,dK⟩;rw[dK];clear dK w');go_ret2;exact⟨by rw[<-hG.out.2.2.1];rfl,N' _ _⟩
    |some al=>
     have hy:al<256:=by
      unfold ey at hp;split at hp;.rw[<-dG hp];exact qJ.out _
      .cases hp
     rw[hp]at G hG;simp only[Ai]at G hG;by_cases h0:al=0;.subst h0;rw[if_pos J]at hG;have j0:=af4 W l hG.2.2.2 hG.2.1;have hl:l.length=i:=hG.1 (by omega);rw[hl]at j0;have fP:=ac7 W.heap.size i (by omega);replace hG:=aa hG;clear hl HG hp;go_wp2_with(go_at_call 186;refine G.mono ?_;rintro e w'⟨rfl,dK⟩;rw[dK];clear dK w');go_ret2;exact⟨by rw[<-hG.out.2.2.1];rfl,N' _ _⟩
     .rw[if_neg h0]at hG;have d0:((al:Int)==0)=false:=by rw[beq_eq_false_iff_ne];omega
      by_cases nB:i<40
      .have c1:=UG W (j5 l) i nB;have c2:=al' W (j5 l);have c3:=af0 W (j5 l) i (I aM al);have HL:=aa (show e0 (j5 l) i (I aM al)=j5 (l++[al])by rw[<-aaO,hG.1 (by omega)]);have HN:=aa (show((i+1<=40->(l++[al]).length=i+1)/\(l++[al]).length<=40/\aqq (ey m) a (41-(i+1)) (i+1) (l++[al])=bd/\∀x∈l++[al],x<256)by
        have hl:=hG.1 (by omega);refine⟨fun _=>by rw[cl,hl];rfl,by rw[cl,hl];simp;omega,hG.2.2.1,fun x hx=>?_⟩;rcases jC.1 hx with h|h;.exact hG.2.2.2 x h
        .rw[jB.1 h];exact hy);clear hG HG hp h0;go_wp2_with(go_at_call 186;refine G.mono ?_;rintro e w'⟨rfl,dK⟩;rw[dK];clear dK w');go_round;case rel=>exact⟨i+1,l++[al],by omega,by go_num,by rw[<-HL.out],HN⟩
       case measure=>simp[intOf];omega
      .have HN:=aa (show((i+1<=40->l.length=i+1)/\l.length<=40/\aqq (ey m) a (41-(i+1)) (i+1) l=bd/\∀x∈l,x<256)from⟨fun h=>by omega,hG.2.1,by have h:=hG.2.2.1;rw[show 41-(i+1)=0 by omega,aqq]at h⊢;exact h,hG.2.2.2⟩);clear hG HG hp h0;go_wp2_with(go_at_call 186;refine G.mono ?_;rintro e w'⟨rfl,dK⟩;rw[dK];clear dK w');go_round;case rel=>exact⟨i+1,l,by omega,by go_num,J,HN⟩
       case measure=>simp[intOf];omega
  .obtain rfl:i=41:=by omega
   go_wp2;go_ret2;exact⟨by rw[<-HG.out.2.2.1];rfl,N' _ _⟩
end Go.Proofs.YtefdakbahplnbaaGreatDoor.Mm
namespace Go.Proofs.YtefdakbahplnbaaGreatDoor.Vr
open Go.RowKit Mm
structure LY where
 g:Nat
 o:Nat
 bu:Nat
 ty:TypeId
 f:Nat->ag
 VE:o+780<=bu
def fQ(aC:LY)(r:RS):Nat->ag:=fun i=>if aC.o<=i/\i<aC.o+780 then e' r (i-aC.o)else aC.f i
theorem ZK(aC:LY)(r:RS)(i:Nat)(h:i<780):fQ aC r (aC.o+i)=e' r i:=by unfold fQ;rw[if_pos (by omega),show aC.o+i-aC.o=i by omega]
theorem JD(aC:LY)(r:RS)(i:Nat)(h:¬(aC.o<=i/\i<aC.o+780)):fQ aC r i=aC.f i:=by unfold fQ;rw[if_neg h]
theorem aoD(aC:LY)(r r':RS)(i:Nat)(v:ag)(hi:i<780)(h:e0 (e' r) i v=e' r'):e0 (fQ aC r) (aC.o+i) v=fQ aC r':=by
 funext j;have hj0:e' r' (j-aC.o)=if j-aC.o=i then v else e' r (j-aC.o):=by rw[<-h];rfl
 show(if j=aC.o+i then v else if aC.o<=j/\j<aC.o+780 then e' r (j-aC.o)else aC.f j)=if aC.o<=j/\j<aC.o+780 then e' r' (j-aC.o)else aC.f j;rw[hj0];by_cases hj:j=aC.o+i;.rw[if_pos hj,if_pos (by omega),if_pos (by omega)]
 .rw[if_neg hj];by_cases dV:aC.o<=j/\j<aC.o+780;.rw[if_pos dV,if_pos dV,if_neg (by omega)]
  .rw[if_neg dV,if_neg dV]
def kZ(g:LY)(r:RS)(W:ac):Prop:=W.heap[g.g]?=U (.cells (VA g.bu (fQ g r)) g.ty (0,0))
structure RB where
 W:ac
 g:LY
 r0:RS
 ok:kZ g r0 W
def RW(D:RB)(r:RS)(k:Nat):ac:=(D.W.setRow D.g.g (VA D.g.bu (fQ D.g r))).drewN k
theorem IJ(D:RB)(r:RS)(k:Nat):(RW D r k).heap[D.g.g]?=U (.cells (VA D.g.bu (fQ D.g r)) D.g.ty (0,0)):=setRow_heap _ _ _ _ _ _ D.ok
theorem Uk(D:RB)(r:RS)(k:Nat):kZ D.g r (RW D r k):=IJ D r k
theorem Hx(D:RB)(r:RS)(k i:Nat)(hi:i<780):(RW D r k).cell? ⟨D.g.g,D.g.o+i,ab⟩=U (e' r i):=by have:=D.g.VE;rw[aT _ _ _ _ _ _ (IJ D r k),km _ _ _ (by omega),ZK _ _ _ hi]
theorem Am(D:RB)(r:RS)(k i:Nat):(RW D r k).frozen? ⟨D.g.g,i,ab⟩=false:=cy _ _ i _ _ (IJ D r k)
theorem Z'(D:RB)(r r':RS)(k:Nat):(RW D r k).setRow D.g.g (VA D.g.bu (fQ D.g r'))=RW D r' k:=by unfold RW;exact congrArg (World.drewN · k) (l' D.W D.g.g _ _ _ _ D.ok)
theorem Ti(D:RB)(r:RS)(k i:Nat)(v:ag)(r':RS)(hi:i<780)(h:e0 (e' r) i v=e' r'):(RW D r k).setCell ⟨D.g.g,D.g.o+i,ab⟩ v=RW D r' k:=by rw[cJ _ _ _ _ _ _ _ (IJ D r k),qu,aoD D.g r r' i v hi h,Z']
theorem we(D:RB)(r:RS)(k n:Nat)(u:n<12):(RW D r k).cell? ⟨D.g.g,D.g.o+n,ab⟩=U (I R (r.ew n)):=by rw[Hx D r k _ (by omega),aag _ _ u]
theorem Ty(D:RB)(r:RS)(k n j:Nat)(u:n<12)(hj:j<64):(RW D r k).cell? ⟨D.g.g,D.g.o+12+n*64+j,ab⟩=U (I aM (r.gM (n*64+j))):=by rw[show D.g.o+12+n*64+j=D.g.o+(12+(n*64+j))by omega,Hx D r k _ (by omega),ZL]
theorem KR(D:RB)(r:RS)(k n x:Nat)(u:n<12):(RW D r k).setCell ⟨D.g.g,D.g.o+n,ab⟩ (I R x)=RW D (lB r n x) k:=Ti D r k _ _ _ (by omega) (akp r n x u)
theorem abb(D:RB)(r:RS)(k n j x:Nat)(u:n<12)(hj:j<64):(RW D r k).setCell ⟨D.g.g,D.g.o+12+n*64+j,ab⟩ (I aM x)=RW D (vq r (n*64+j) x) k:=by rw[show D.g.o+12+n*64+j=D.g.o+(12+(n*64+j))by omega];exact Ti D r k _ _ _ (by omega) (ZV r _ x)
theorem Dz(D:RB)(r:RS)(k n:Nat):(RW D r k).drewN n=RW D r (k+n):=by unfold RW;rw[World.drewN_drewN]
theorem IM(D:RB)(r:RS)(k:Nat):(RW D r k).drew=RW D r (k+1):=Dz D r k 1
theorem aau{g:LY}{r:RS}{W:ac}(h:kZ g r W):W=RW ⟨W,g,r,h⟩ r 0:=by show W=(W.setRow g.g (VA g.bu (fQ g r))).drewN 0;rw[show(W.setRow g.g (VA g.bu (fQ g r)))=W from setRow_self W g.g _ _ _ h];rfl
theorem PC(D:RB)(r:RS)(k:Nat):D.W.grownBy (RW D r k) (U D.g.g):=⟨J,J,J,by show D.W.heap.size<=(D.W.heap.modify _ _).size;rw[Array.size_modify];exact aA _,fun j _ bo=>by show(D.W.heap.modify _ _)[j]?=_;rw[Array.getElem?_modify,if_neg (fun e=>bo (by rw[e]))]⟩
attribute[local go_sem]IM Dz Am
theorem afr(D:RB)(r:RS)(k:Nat)(n:Int)(u:¬(0<=n/\n<=7)):ap ae 24 #[av (U ⟨D.g.g,D.g.o,ab⟩),I R n] (RW D r k) fun e w'=>e=aq (I R 5)/\w'=RW D r k:=by
 by_cases h0:n<0;.go_enter func24,ntmps24;go_wp2;go_ret;exact⟨J,J⟩
 .have h7:7<n:=by omega
  go_enter func24,ntmps24;go_wp2;go_ret;exact⟨J,J⟩
theorem alj(D:RB)(r:RS)(k n:Nat)(u:n<8)(h0:r.ew n=0):ap ae 24 #[av (U ⟨D.g.g,D.g.o,ab⟩),I R n] (RW D r k) fun e w'=>e=aq (I R 5)/\w'=RW D r k:=by have c1:=we D r k n (by omega);rw[h0]at c1;go_enter func24,ntmps24;go_wp2;go_ret;exact⟨J,J⟩
theorem ajo(D:RB)(r:RS)(k n:Nat)(u:n<8)(h0:r.ew n≠0):ap ae 24 #[av (U ⟨D.g.g,D.g.o,ab⟩),I R n] (RW D r k) fun e w'=>e=aq (I R 0)/\w'=RW D (lB r n 0) k:=by
 have c1:=we D r k n (by omega);have c2:=KR D r k n 0 (by omega);have d:((r.ew n:Int)==0)=false:=by rw[beq_eq_false_iff_ne];omega
 go_enter func24,ntmps24;go_wp2;go_ret;exact⟨J,c2⟩
theorem ah0(D:RB)(r:RS)(k a:Nat)(ha:a<18446744073709551616):ap ae 113 #[av (U ⟨D.g.g,D.g.o,ab⟩),I ah a] (RW D r k) fun e w'=>e=aq (vP (ol r a))/\w'=RW D r k:=by
 unfold ol;by_cases h:a<768
 .have c1:=we D r k (a/64) (by omega);by_cases h0:r.ew (a/64)=0;.rw[if_neg (fun e=>e.2 h0)];rw[h0]at c1;go_enter func113,ntmps113;go_wp2;go_ret2;exact⟨J,J⟩
  .rw[if_pos ⟨h,h0⟩];have d:((r.ew (a/64):Int)==0)=false:=by rw[beq_eq_false_iff_ne];omega
   have c2:=Ty D r k (a/64) (a%64) (by omega) (by omega);rw[show a/64*64+a%64=a by omega]at c2;go_enter func113,ntmps113;go_wp2;go_ret2;exact⟨J,J⟩
 .rw[if_neg (fun e=>h e.1)];obtain⟨B,N⟩:∃B:Int,B=(a:Int)/64:=⟨_,J⟩;have hw:ah.wrap ((a:Int)/64)=B:=by rw[jQ,N];omega
  have eL:(11:Int)<B:=by omega
  clear ha N h;go_enter func113,ntmps113;go_wp2;go_ret2;exact⟨J,J⟩
end Go.Proofs.YtefdakbahplnbaaGreatDoor.Vr
