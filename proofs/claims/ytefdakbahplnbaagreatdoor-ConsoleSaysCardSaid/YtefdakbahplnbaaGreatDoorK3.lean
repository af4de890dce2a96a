/- Numbers in texts: digits and what reads them; texts of numbers with signs between. No model in it. -/
import Derived.Test.YtefdakbahplnbaaGreatDoorK1
import Derived.Lib.ItoaNum
import Derived.Lib.Bytealg
import Derived.Lib.IndexLaws
import Derived.Lib.Strings
import Derived.Lib.Walk
import Derived.Laws.BitsAllLaws
import Derived.Lib.ItoaLen
import Derived.Laws.BytesString
import Derived.OwnWalk
import Derived.Lib.Builder
import Derived.Lib.SmallJoins
import Derived.Deep.RegionHeld3
import Derived.Deep.AppendLies
import Derived.Laws.MakeOwn
open Go.Proofs.Tryz
open BitVec renaming ofInt->T1,ofInt_natCast->ao7,toNat_ofNat->ao8
open Bool renaming and_eq_true->lR,eq_iff_iff->fs
open Go renaming Calls->ap,Oper->bz,Value->ag,World->ac,bodyPost_ret->ba,heap_alloc2_new->y',heap_alloc2_old->AQ,run_convert_bytes_back->xh
open Go.Calls renaming quiet_of_same->pc
open Go.Ending renaming returned->aq
open Go.IntKind renaming i64->R,u8->aM
open Go.Lib renaming decDigits->aQ,decDigits_length->tN,hasPrefix->y_,indexByte->kg,nDigits->rq,nDigits_big->TQ,nDigits_small->JF,size_eq->dy
open Go.Proofs.Tryz renaming prog->ae
open Go.Value renaming bool->aH,int->I,slice->ak,string->ad
open List renaming all_append->AO,all_cons->CU,all_nil->TP,getD_eq_getElem?_getD->cI,getElem?_eq_getElem->cq,length_append->cl,length_cons->fh,length_map->oB,mem_cons_of_mem->vA,mem_cons_self->tP,nil_append->vz
open Nat renaming le_refl->aA,mod_eq_of_lt->jg,strongRecOn->aco
open Option renaming map_eq_some_iff->qh,none->ab,some->U
open Or renaming inl->sC,inr->pa
open UInt8 renaming ofNat->bB,toNat_inj->FE,toNat_ofNat'->mT
namespace Go.Proofs.YtefdakbahplnbaaGreatDoor
open Go.RowKit
def eD(c:UInt8):Bool:=decide (48<=c.toNat)&&decide (c.toNat<=57)
def js(n:Nat)(l:List UInt8):Nat:=l.foldl (fun n c=>n*10+(c.toNat-48)) n
theorem Sf(n:Nat):js n []=n:=rfl
theorem El(n:Nat)(c:UInt8)(r:List UInt8):js n (c::r)=js (n*10+(c.toNat-48)) r:=by unfold js;rw[List.foldl_cons]
theorem Mh(c:UInt8)(l:List UInt8)(n:Nat):js n (l++[c])=js n l*10+(c.toNat-48):=by unfold js;rw[List.foldl_append,List.foldl_cons,List.foldl_nil]
theorem Jk(d:Nat)(h:d<10):(bB (48+d)).toNat=48+d:=by rw[mT];exact jg (by omega)
theorem Yd(d:Nat)(h:d<10):eD (bB (48+d))=true:=by unfold eD;rw[Jk d h];simp;omega
theorem yB(ay:Nat):(aQ ay).all eD=true:=by
 induction ay using aco with
  |_ ay ih=>
   rw[aQ];split;.rename_i h;simp only[CU,TP,Yd ay h,Bool.and_self]
   .rw[AO,ih (ay/10) (by omega)];simp only[CU,TP,Yd (ay%10) (by omega),Bool.and_self]
theorem BO(ay:Nat):js 0 (aQ ay)=ay:=by
 induction ay using aco with
  |_ ay ih=>
   rw[aQ];split;.rename_i h;rw[El,Sf,Jk ay h];omega
   .rw[Mh,ih (ay/10) (by omega),Jk _ (by omega)];omega
theorem R_(ay:Nat):aQ ay≠[]:=by intro h;have:=congrArg List.length h;rw[tN]at this;have:=Lib.nDigits_pos ay;simp at*;omega
theorem Zs(a b:List UInt8)(h:a≠[]):(a++b).head?=a.head?:=by
 cases a with
  |nil=>exact absurd J h
  |cons x r=>rfl
theorem ac1(ay:Nat)(h0:1<=ay):(aQ ay).head?≠U 48:=by
 induction ay using aco with
  |_ ay ih=>
   rw[aQ];split;.rename_i h;intro hh;have:=congrArg UInt8.toNat (Option.some.inj hh);rw[Jk ay h]at this;simp at this;omega
   .rw[Zs _ _ (R_ _)];exact ih (ay/10) (by omega) (by omega)
theorem ZN:∀(l:List UInt8)(n:Nat),1<=n->1<=js n l|[],_,h=>h|c::r,n,h=>by rw[El];exact ZN r _ (by omega)
theorem aei(l:List UInt8)(u:l≠[])(ha:l.all eD=true)(hh:l.head?≠U 48):1<=js 0 l:=by
 cases l with
  |nil=>exact absurd J u
  |cons c r=>rw[El];refine ZN r _ ?_;simp only[CU,lR]at ha;have q:=ha.1;unfold eD at q;simp only[lR,decide_eq_true_eq]at q;have:c.toNat≠48:=fun e=>hh (by rw[List.head?_cons];exact congrArg U (FE.1 e));omega
theorem VD(c:UInt8)(h:eD c=true):bB (48+(c.toNat-48))=c:=by unfold eD at h;simp only[lR,decide_eq_true_eq]at h;apply FE.1;rw[Jk _ (by omega)];omega
theorem aaU(c:UInt8)(h:eD c=true):c.toNat-48<10:=by unfold eD at h;simp only[lR,decide_eq_true_eq]at h;omega
theorem Yc:∀(k:Nat)(l:List UInt8),l.length=k->l≠[]->l.all eD=true->(1<l.length->l.head?≠U 48)->aQ (js 0 l)=l
 |0,l,z,u,_,_=>absurd (List.eq_nil_of_length_eq_zero z) u
 |k+1,l,z,u,ha,hh=>by
  obtain⟨nt,c,rfl⟩:∃nt c,l=nt++[c]:=⟨l.dropLast,l.getLast u,(List.dropLast_concat_getLast u).symm⟩;rw[AO,lR]at ha;obtain⟨AB,AK⟩:=ha;have H:eD c=true:=by simpa using AK
  have hl:=aaU c H;rw[Mh];by_cases he:nt=[];.subst he;rw[Sf,vz,Nat.zero_mul,Nat.zero_add,aQ,dif_pos hl,VD c H]
  .have cY:1<(nt++[c]).length:=by rw[cl];have:=List.length_pos_iff.2 he;simp;omega
   have hh':nt.head?≠U 48:=by have:=hh cY;rwa[Zs _ _ he]at this
   have hp:=aei nt he AB hh';have ih:=Yc k nt (by simpa using z) he AB (fun _=>hh');rw[aQ,dif_neg (by omega),show(js 0 nt*10+(c.toNat-48))/10=js 0 nt by omega,show(js 0 nt*10+(c.toNat-48))%10=c.toNat-48 by omega,ih,VD c H]
theorem BE(n:Nat)(h:n<100000):rq n<=5:=by
 by_cases q:n<10;.rw[JF q];omega
 rw[TQ q];by_cases h2:n/10<10;.rw[JF h2];omega
 rw[TQ h2];by_cases h3:n/10/10<10;.rw[JF h3];omega
 rw[TQ h3];by_cases h4:n/10/10/10<10;.rw[JF h4];omega
 rw[TQ h4,JF (by omega)];omega
theorem Yg:∀(l:List UInt8)(n:Nat),l.all eD=true->js n l+1<=(n+1)*10^l.length|[],n,_=>by rw[Sf,List.length_nil,Nat.pow_zero,Nat.mul_one];exact aA _|c::r,n,h=>by simp only[CU,lR]at h;have q:=Yg r (n*10+(c.toNat-48)) h.2;have h2:=aaU c h.1;rw[El,fh,Nat.pow_succ,Nat.mul_comm (10^r.length) 10,<-Nat.mul_assoc];exact Nat.le_trans q (Nat.mul_le_mul_right _ (by omega))
def jE(l:List UInt8):Option Nat:=if l.length=0\/5<l.length\/(1<l.length/\l.head?=U 48)\/l.all eD=false then ab else U (js 0 l)
theorem X'(n:Nat)(h:n<100000):jE (aQ n)=U n:=by
 have h5:=BE n h;have q:=Lib.nDigits_pos n;unfold jE;rw[if_neg,BO];rw[tN,yB];rintro(h|h|⟨h,h'⟩|h);.omega
 .omega
 .refine ac1 n ?_ h';by_cases h0:n=0;.subst h0;rw[JF (by decide)]at h;omega
  .omega
 .cases h
theorem acb{l:List UInt8}{n:Nat}(h:jE l=U n):l=aQ n/\n<100000:=by
 unfold jE at h;split at h;.cases h
 .rename_i H;have hC:¬l.length=0:=fun e=>H (sC e);have lw:¬5<l.length:=fun e=>H (pa (sC e));have hc3:1<l.length->l.head?≠U 48:=fun e alu=>H (pa (pa (sC ⟨e,alu⟩)));have hc4:l.all eD=true:=by
   cases hb:l.all eD;.exact absurd (pa (pa (pa hb))) H
   .rfl
  have hb:=Yc l.length l J (fun e=>hC (by rw[e];rfl)) hc4 hc3;rw[Option.some.inj h]at hb;refine⟨hb.symm,?_⟩;have q:=Lib.lt_pow_nDigits n;have h2:rq n<=5:=by rw[<-tN,hb];omega
  exact Nat.lt_of_lt_of_le q (Nat.pow_le_pow_right (n:=10) (j:=5) (by decide) h2)
def mb:List UInt8->List Nat->List UInt8|c::cs,n::Q=>aQ n++c::mb cs Q|_,n::_=>aQ n|_,[]=>[]
theorem Ow(c:UInt8)(b:List UInt8):∀a:List UInt8,c∉a->kg (a++c::b) c=a.length|[],_=>by rw[vz,kg,if_pos (by simp)];rfl|x::a,h=>by have q:x≠c:=fun e=>h (by rw[e];exact tP ..);rw[List.cons_append,kg,Ow c b a (fun e=>h (vA _ e)),if_neg (by simpa using q),if_neg (by simp)];simp
theorem SZ(l:List UInt8)(c:UInt8)(i:Nat)(h:kg l c=i):i<l.length/\l=l.take i++c::l.drop (i+1):=by obtain⟨q,_⟩:=Lib.indexByte_some h;obtain⟨hi,he⟩:=List.getElem?_eq_some_iff.1 q;refine⟨hi,?_⟩;rw[<-he];simp
theorem ahy(c:UInt8)(H:eD c=false)(n:Nat):c∉aQ n:=fun h=>by have:=List.all_eq_true.1 (yB n) c h;rw[H]at this;cases this
def iS:List UInt8->List UInt8->Option (List Nat)|[],s=>(jE s).map fun n=>[n]|c::cs,s=>if kg s c<0 then ab else(jE (s.take (kg s c).toNat)).bind fun n=>(iS cs (s.drop ((kg s c).toNat+1))).map fun Q=>n::Q
theorem abK:∀(cs:List UInt8)(Q:List Nat),(∀c∈cs,eD c=false)->Q.length=cs.length+1->(∀n∈Q,n<100000)->iS cs (mb cs Q)=U Q|[],[n],_,_,h=>by show(jE (aQ n)).map _=_;rw[X' n (h n (tP ..))];rfl|c::cs,n::Q,H,hl,h=>by have hi:kg (aQ n++c::mb cs Q) c=(aQ n).length:=Ow c _ _ (ahy c (H c (tP ..)) n);show iS (c::cs) (aQ n++c::mb cs Q)=_;rw[iS,hi,if_neg (by omega),Int.toNat_natCast,List.take_left' J,X' n (h n (tP ..)),List.drop_append,List.drop_eq_nil_of_le (by omega),show(aQ n).length+1-(aQ n).length=1 by omega];show((iS cs (mb cs Q)).map fun Q=>n::Q)=_;rw[abK cs Q (fun d hd=>H d (vA _ hd)) (by simpa using hl) (fun m hm=>h m (vA _ hm))];rfl|[],[],_,hl,_=>by simp at hl|[],_::_::_,_,hl,_=>by simp at hl|_::_,[],_,hl,_=>by simp at hl
theorem H':∀(cs:List UInt8)(s:List UInt8)(Q:List Nat),iS cs s=U Q->Q.length=cs.length+1/\(∀n∈Q,n<100000)/\s=mb cs Q
 |[],s,Q,h=>by rw[iS,qh]at h;obtain⟨n,u,rfl⟩:=h;obtain⟨q,h2⟩:=acb u;refine⟨J,fun m hm=>?_,q⟩;rw[List.mem_singleton.1 hm];exact h2
 |c::cs,s,Q,h=>by
  rw[iS]at h;split at h;.cases h
  .rename_i hi;rw[Option.bind_eq_some_iff]at h;obtain⟨n,u,h⟩:=h;rw[qh]at h;obtain⟨D',gT,rfl⟩:=h;obtain⟨q,h2⟩:=acb u;obtain⟨h3,h4,h5⟩:=H' cs _ D' gT;refine⟨by rw[fh,h3,fh],fun m hm=>?_,?_⟩
   .rcases List.mem_cons.1 hm with rfl|hm;.exact h2
    .exact h4 m hm
   .obtain⟨_,he⟩:=SZ s c (kg s c).toNat (by omega);show s=aQ n++c::mb cs D';rw[<-q,<-h5];exact he
end Go.Proofs.YtefdakbahplnbaaGreatDoor
namespace Go.Proofs.YtefdakbahplnbaaGreatDoor.Gl
open Go.RowKit
def lq(b:Int):Bool:=decide (97<=b)&&decide (b<=122)||decide (65<=b)&&decide (b<=90)||decide (48<=b)&&decide (b<=57)||b==46||b==95
def sL(b:Int):Bool:=b==42||b==63||b==91||b==93||b==92
def qV(b:Int):Bool:=decide (33<=b)&&decide (b<=126)&&b !=34&&!sL b
theorem vO(b:Int)(w:ac):ap ae 264 #[I aM b] w fun e w'=>e=aq (aH (lq b))/\w'=w:=by go_enter func264,ntmps264;go_wp2;all_goals go_ret;exact⟨gm (by rw[fs];simp[lq];try omega),J⟩
theorem qq(b:Int)(w:ac):ap ae 199 #[I aM b] w fun e w'=>e=aq (aH (lq b))/\w'=w:=by go_enter func199,ntmps199;go_wp2;all_goals go_ret;exact⟨gm (by rw[fs];simp[lq];try omega),J⟩
theorem Ws(b:Int)(w:ac):ap ae 153 #[I aM b] w fun e w'=>e=aq (aH (sL b))/\w'=w:=by go_enter func153,ntmps153;go_wp2;all_goals go_ret;exact⟨gm (by rw[fs];simp[sL];try omega),J⟩
set_option maxRecDepth 100000 in theorem ae7(s:ByteArray)(c:Int)(w:ac):ap ae 178 #[ad s,I aM c] w fun e w'=>e=aq (I R (kg s.data.toList c.toNat.toUInt8))/\w'=w:=by go_enter func178,ntmps178;go_wp2;rw[run_callFunc_extern func219 (by kernel_rfl) (by kernel_rfl) (by kernel_rfl) (e:=Extern.BytealgIndexByte.indexByte) (by kernel_rfl),Lib.run_indexByteString];simp only[Result.andThen];rw[Oper.upon_value];go_wp2;go_ret;exact⟨J,J⟩
theorem strings_IndexByte(s:ByteArray)(c:Int)(w:ac):ap ae 136 #[ad s,I aM c] w fun e w'=>e=aq (I R (kg s.data.toList c.toNat.toUInt8))/\w'=w:=by go_enter func136,ntmps136;go_wp2_with(go_at_call 178;refine(ae7 _ _ _).mono ?_;rintro e w'⟨rfl,rfl⟩);go_ret;exact⟨J,J⟩
theorem VR(c:Nat)(H:c<256):decide (kg [42,63,91,93,92] (bB c)<0)=!sL c:=by
 have h:∀c:Fin 256,decide (kg [42,63,91,93,92] (bB c.val)<0)=!sL c.val:=by decide+kernel
 exact h ⟨c,H⟩
theorem ab9(b:Nat)(hb:b<256)(w:ac):ap ae 248 #[I aM b] w fun e w'=>e=aq (aH (qV b))/\w'=w:=by
 have F:=VR b hb;have acW:=aa F;clear F;go_enter func248,ntmps248;go_wp2_with(go_at_call 136;refine(strings_IndexByte _ _ _).mono ?_;rintro e w'⟨rfl,rfl⟩);.go_ret;exact⟨gm (by rw[fs];simp[qV];omega),J⟩
 .go_ret;exact⟨gm (by rw[acW.out];rw[fs];simp[qV];omega),J⟩
 .go_ret;exact⟨gm (by rw[fs];simp[qV];omega),J⟩
 .go_ret;exact⟨gm (by rw[fs];simp[qV];omega),J⟩
theorem ao0(s p:ByteArray)(w:ac):ap ae 258 #[ad s,ad p] w fun e w'=>e=aq (aH (y_ s.data.toList p.data.toList))/\w'=w:=by
 rw[<-Lib.hasPrefix_of_take,<-dy,<-dy];go_enter func258,ntmps258;go_wp2;.rename_i h;go_ret;refine⟨?_,J⟩;show aq (aH ((s.extract 0 p.size).toList==p.toList))=_;rw[Lib.extract_toList,Lib.toList_data];simp[h]
 .rename_i h;go_ret;refine⟨?_,J⟩;show aq (aH false)=_;simp[h]
theorem WN(s p:ByteArray)(w:ac):ap ae 243 #[ad s,ad p] w fun e w'=>e=aq (aH (y_ s.data.toList p.data.toList))/\w'=w:=by go_enter func243,ntmps243;go_wp2_with(go_at_call 258;refine(ao0 _ _ _).mono ?_;rintro e w'⟨rfl,rfl⟩);go_ret;exact⟨J,J⟩
end Go.Proofs.YtefdakbahplnbaaGreatDoor.Gl
namespace Go.Proofs.YtefdakbahplnbaaGreatDoor.Gl
open Go.RowKit
attribute[local go_sem]tZ lX il FB
set_option maxRecDepth 10000 in theorem Mo(b:Nat)(hb:b<256)(w:ac):ap ae 245 #[I aM b] w fun e w'=>e=aq (.agg (LA 256 (cS (fun _=>false) b true)))/\Below w.heap.size w w':=by have ha:=FV;go_enter func245,ntmps245;go_wp2_with(first|(refine Bf 249 256 256 4 J _ J ?g ?hx underlying249 wN (cS (fun _=>false) b true) 249 ?hg ?h;(case g=>exact w.heap.size+1);(case hx=>rfl);(case hg=>with_reducible exact y' _ _ _))|(refine h_ 249 256 J _ _ J ?g2 ?hx2 (cS (fun _=>false) b true) ?hy2 wN (fun _=>false) 249 ?hg2 ?h2;(case g2=>exact w.heap.size);(case hx2=>rfl);(case hy2=>rfl);(case hg2=>with_reducible exact AQ _ _ _))|(refine ba (Ka 256 256 4 J _ _ w.heap.size _ 249 J (hQ _ (AQ _ _ _)) underlying249 wN) J ⟨J,?hb⟩;exact below_setRow (((Below.refl _ _).alloc (aA _) _).alloc (by simp) _) (aA _) _))
def sW(f:Nat->Bool)(k:Nat):Nat->Bool:=fun i=>if i<k then !f i else f i
theorem agO(f:Nat->Bool):sW f 0=f:=by funext i;simp[sW]
theorem afz(f:Nat->Bool)(k:Nat):cS (sW f k) k (!f k)=sW f (k+1):=by
 funext i;simp only[cS,sW];by_cases h:i=k;.subst h;simp
 .by_cases h2:i<k;.simp[h,h2,show i<k+1 by omega]
  .simp[h,h2,show¬i<k+1 by omega]
theorem alC(f:Nat->Bool):LA 256 (sW f 256)=LA 256 fun i=>!f i:=Sz _ _ _ fun i h=>by simp[sW,h]
set_option maxRecDepth 10000 in theorem Nd(f:Nat->Bool)(w:ac):ap ae 244 #[.agg (LA 256 f)] w fun e w'=>e=aq (.agg (LA 256 fun i=>!f i))/\Below w.heap.size w w':=by
 have ha:=FV;go_enter func244,ntmps244;go_wp2_with fail;go_loopw[4](fun i w'=>∃k:Nat,k<=256/\i=I R k/\w'=(w.alloc (.cells (LA 256 (sW f k)) 249)).alloc (.cells (LA 256 fun _=>false) 249))(fun i _=>256-(intOf i).toNat);case atStart=>exact⟨0,by omega,J,by rw[agO]⟩
 case round=>
  obtain⟨k,z,rfl,rfl⟩:=hrel;by_cases am:k<256
  .have M:sW f k k=f k:=by simp[sW]
   go_wp2_with fail;go_roundw;case rel=>exact⟨k+1,by omega,by go_num,by rw[afz]⟩
   case measure=>simp[intOf];omega
  .have e:k=256:=by omega
   have He:=aa e;clear e;go_wp2_with(first|(refine Bf 249 256 256 4 J _ J ?g ?hx underlying249 wN (sW f k) 249 ?hg ?h;(case g=>exact w.heap.size);(case hx=>rfl);(case hg=>with_reducible exact AQ _ _ _))|(refine h_ 249 256 J _ _ J ?g2 ?hx2 (sW f k) ?hy2 wN (fun _=>false) 249 ?hg2 ?h2;(case g2=>exact w.heap.size+1);(case hx2=>rfl);(case hy2=>rfl);(case hg2=>with_reducible exact y' _ _ _))|(refine ba (Ka 256 256 4 J _ _ (w.heap.size+1) _ 249 J (hQ _ (y' _ _ _)) underlying249 wN) J ⟨?he,?hb⟩;(case he=>rw[He.out,alC]);(case hb=>exact below_setRow (((Below.refl _ _).alloc (aA _) _).alloc (by simp) _) (by omega) _)))
end Go.Proofs.YtefdakbahplnbaaGreatDoor.Gl
namespace Go.Proofs.YtefdakbahplnbaaGreatDoor.Gl
open Go.RowKit
def aqh(s:ByteArray)(i:Nat):Nat:=(s.data.toList.getD i 0).toNat
theorem aqj(s:ByteArray)(i:Nat):aqh s i<256:=(s.data.toList.getD i 0).toNat_lt
theorem aqi(s:ByteArray)(i:Nat)(h:i<s.size):s[i].toNat=aqh s i:=by unfold aqh;rw[cI,cq (by rw[<-dy];exact h)];rfl
def fO(n b_ b1 b2:Nat):Nat:=if lq b_=true then(if n<2 then 1 else if b1=45 then(if n<3 then 0 else if lq b2=true then(if b2<b_ then 0 else 3)else 0)else 1)else 0
set_option maxHeartbeats 400000 in theorem ae0(s:ByteArray)(F:0<s.size)(hz:s.size<=1000)(w:ac):ap ae 259 #[ad s] w fun e w'=>e=aq (I R (fO s.size (aqh s 0) (aqh s 1) (aqh s 2)))/\∃n,w'=w.drewN n:=by
 have fE:=aqi s 0 F;unfold fO;by_cases n0:lq (aqh s 0)=true
 .rw[if_pos n0];by_cases h2:s.size<2;.rw[if_pos h2];go_enter func259,ntmps259;go_wp2_with(go_at_call 264;refine(vO _ _).mono ?_;rintro e w'⟨rfl,rfl⟩);go_ret;exact⟨J,0,J⟩
  .rw[if_neg h2];have e1:=aqi s 1 (by omega);by_cases q:aqh s 1=45
   .rw[if_pos q];have b1:(((aqh s 1:Nat):Int)!=45)=false:=by simp[q]
    have apl:=aa q;clear q;by_cases h3:s.size<3
    .rw[if_pos h3];have d3:decide ((s.size:Int)<3)=true:=by simp;omega
     go_enter func259,ntmps259;go_wp2_with(go_at_call 264;refine(vO _ _).mono ?_;rintro e w'⟨rfl,rfl⟩);go_quiet(fail);go_wp2;go_ret;exact⟨J,_,J⟩
    .rw[if_neg h3];have e2:=aqi s 2 (by omega);have d3:decide ((s.size:Int)<3)=false:=by simp;omega
     by_cases n2:lq (aqh s 2)=true
     .rw[if_pos n2];by_cases am:aqh s 2<aqh s 0
      .rw[if_pos am];have En:decide ((aqh s 2:Int)<(aqh s 0:Int))=true:=by simp;omega
       go_enter func259,ntmps259;go_wp2_with(go_at_call 264;refine(vO _ _).mono ?_;rintro e w'⟨rfl,rfl⟩);go_quiet((go_at_call 264;exact pc (vO _ _)));go_wp2;go_ret;exact⟨J,_,J⟩
      .rw[if_neg am];have En:decide ((aqh s 2:Int)<(aqh s 0:Int))=false:=by simp;omega
       go_enter func259,ntmps259;go_wp2_with(go_at_call 264;refine(vO _ _).mono ?_;rintro e w'⟨rfl,rfl⟩);go_quiet((go_at_call 264;exact pc (vO _ _)));go_wp2;go_ret;exact⟨J,_,J⟩
     .rw[if_neg n2];have n2':lq (aqh s 2)=false:=by simpa using n2
      clear n2;go_enter func259,ntmps259;go_wp2_with(go_at_call 264;refine(vO _ _).mono ?_;rintro e w'⟨rfl,rfl⟩);go_quiet((go_at_call 264;exact pc (vO _ _)));go_wp2;go_ret;exact⟨J,_,J⟩
   .rw[if_neg q];have b1:(((aqh s 1:Nat):Int)!=45)=true:=by rw[bne_iff_ne];omega
    go_enter func259,ntmps259;go_wp2_with(go_at_call 264;refine(vO _ _).mono ?_;rintro e w'⟨rfl,rfl⟩);go_ret;exact⟨J,0,J⟩
 .rw[if_neg n0];have n0':lq (aqh s 0)=false:=by simpa using n0
  clear n0;go_enter func259,ntmps259;go_wp2_with(go_at_call 264;refine(vO _ _).mono ?_;rintro e w'⟨rfl,rfl⟩);go_ret;exact⟨J,0,J⟩
def tc(f:Nat->Bool)(lo hi:Nat):Nat->Bool:=fun i=>f i||(decide (lo<=i)&&decide (i<=hi))
def tA(f:Nat->Bool)(lo hi k:Nat):Nat->Bool:=fun i=>f i||(decide (i<k)&&(decide (lo<=i)&&decide (i<=hi)))
theorem VH(f:Nat->Bool)(lo hi:Nat):tA f lo hi 0=f:=by funext i;simp[tA]
theorem VB(f:Nat->Bool)(lo hi k:Nat)(q:lo<=k)(h2:k<=hi):cS (tA f lo hi k) k true=tA f lo hi (k+1):=by
 funext i;simp only[cS,tA];by_cases h:i=k;.subst h;simp[q,h2]
 .have e:decide (i<k+1)=decide (i<k):=by rw[decide_eq_decide];omega
  simp[h,e]
theorem Ml(f:Nat->Bool)(lo hi k:Nat)(h:¬(lo<=k/\k<=hi)):tA f lo hi k=tA f lo hi (k+1):=by
 funext i;simp only[tA];by_cases e7:i=k
 .subst e7;have:(decide (lo<=i)&&decide (i<=hi))=false:=by rw[Bool.and_eq_false_iff];simp only[decide_eq_false_iff_not];omega
  simp[this]
 .have e:decide (i<k+1)=decide (i<k):=by rw[decide_eq_decide];omega
  rw[e]
theorem Zw(f:Nat->Bool)(lo hi:Nat)(h:hi<256):tA f lo hi 256=tc f lo hi:=by
 funext i;simp only[tA,tc];by_cases q:i<=hi;.simp[show i<256 by omega]
 .simp[q]
def eb(s:ByteArray)(qN:Nat):Nat:=fO (s.size-qN) (aqh s qN) (aqh s (qN+1)) (aqh s (qN+2))
def db:Nat->ByteArray->Nat->(Nat->Bool)->Option (Nat×(Nat->Bool))|0,_,_,_=>ab|k+1,s,a,f=>if a<s.size/\aqh s a≠93 then(if eb s a=0 then ab else db k s (a+eb s a) (tc f (aqh s a) (aqh s (a+eb s a-1))))else U (a,f)
theorem Rq(s:ByteArray)(a:Nat)(h:a<s.size):a+eb s a<=s.size/\eb s a<=3:=by
 unfold eb fO;repeat' split
 all_goals omega
def kT(s:ByteArray):Bool:=decide (1<s.size)&&aqh s 1==33
def g'(s:ByteArray):Nat:=if kT s=true then 2 else 1
def f_(nb:Bool)(D size:Nat):Option (Nat×(Nat->Bool))->Option ((Nat->Bool)×Nat)|ab=>ab|U (a,f)=>if a=D\/a=size then ab else U (cS (if nb=true then fun i=>!f i else f) 47 false,a+1)
def e4(s:ByteArray):Option ((Nat->Bool)×Nat):=f_ (kT s) (g' s) s.size (db (s.size+1) s (g' s) fun _=>false)
theorem qm(s:ByteArray)(a i:Nat)(_h:a<=s.size):aqh (s.extract a s.size) i=aqh s (a+i):=by unfold aqh;rw[Lib.extract_data];simp only[cI];congr 2;rw[List.take_of_length_le (by simp only[List.length_drop,dy];omega),List.getElem?_drop]
theorem size_extract(s:ByteArray)(a:Nat):(s.extract a s.size).size=s.size-a:=by simp
theorem aow(s:ByteArray)(c:UInt8):y_ s.data.toList [c]=(decide (0<s.size)&&aqh s 0==c.toNat):=by
 unfold aqh;rw[dy];cases h:s.data.toList with
  |nil=>simp[y_]
  |cons a l=>simp only[y_,List.isPrefixOf,List.getD_cons_zero,fh];rw[fs];simp only[Bool.and_true,beq_iff_eq,Nat.zero_lt_succ,decide_true,Bool.true_and,<-FE];exact⟨fun h=>h.symm,fun h=>h.symm⟩
theorem akz(s:ByteArray)(h:1<=s.size):y_ (s.extract 1 s.size).data.toList [33]=kT s:=by rw[aow,qm s 1 0 h,size_extract];unfold kT;congr 1;rw[decide_eq_decide];omega
end Go.Proofs.YtefdakbahplnbaaGreatDoor.Gl
namespace Go.Proofs.YtefdakbahplnbaaGreatDoor
open Go.RowKit
def an(s:ByteArray)(i:Nat):Nat:=(s.data.toList.getD i 0).toNat
theorem ea(s:ByteArray)(i:Nat):an s i<256:=(s.data.toList.getD i 0).toNat_lt
theorem cd(s:ByteArray)(i:Nat)(h:i<s.size):s[i].toNat=an s i:=by unfold an;rw[cI,cq (by rw[<-dy];exact h)];rfl
theorem XO(a b:Nat)(hb:b<256):a*256|||b=a*256+b:=by have:=Nat.shiftLeft_add_eq_or_of_lt (i:=8) (b:=b) (by omega) a;rw[Nat.shiftLeft_eq]at this;exact this.symm
theorem ZO(a b:Nat)(ha:a<16777216)(hb:b<256):bits .or .u32 ((a:Int)*256) (b:Int)=((a*256+b:Nat):Int):=by rw[show(a:Int)*256=((a*256:Nat):Int)by simp,u32_or_nat _ _ (by omega) (by omega),XO a b hb]
theorem aiD(a b:Nat)(ha:a<9223372036854775808)(hb:b<9223372036854775808):bits .or R (a:Int) (b:Int)=((a|||b:Nat):Int):=by
 have hx:a|||b<2^63:=Nat.or_lt_two_pow (by omega) (by omega);have q:(T1 64 (a:Int)).toNat=a:=by rw[ao7,ao8];exact jg (by omega)
 have h2:(T1 64 (b:Int)).toNat=b:=by rw[ao7,ao8];exact jg (by omega)
 show R.wrap ((T1 64 (a:Int)|||T1 64 (b:Int)).toNat:Int)=_;rw[BitVec.toNat_or,q,h2];rw[IntKind.wrap_i64];omega
theorem an8(a b:Nat)(ha:a<256)(hb:b<256):bits .or R ((a:Int)*256) (b:Int)=((a*256+b:Nat):Int):=by rw[show(a:Int)*256=((a*256:Nat):Int)by simp,aiD _ _ (by omega) (by omega),XO a b hb]
theorem ZB{k:Nat}(h:k<10):aQ k=[bB (48+k)]:=by rw[aQ,dif_pos h]
theorem akD{k:Nat}(h:¬k<10):aQ k=aQ (k/10)++[bB (48+k%10)]:=by rw[aQ,dif_neg h]
theorem WR(W:ac)(c:Nat)(H:c<256)(g:Nat)(hg:W.cell? ⟨g,0,ab⟩=U (I aM c)):(convert 134 9 (ak (U ⟨g,0,ab⟩) 1 1)).run ae W= .ok (ad ⟨#[bB c]⟩) W:=xh (P:=ae) W 134 9 5 ⟨g,0,ab⟩ 1 [bB c] underlying134 underlying5 underlying9 fun j hj=>by
 obtain rfl:j=0:=by simp at hj;omega
 rw[show(⟨g,0,ab⟩:Addr).add 0=⟨g,0,ab⟩by simp[Addr.add],hg];simp[mT,jg H]
theorem JE(n:Nat)(u:n<18446744073709551616)(w:ac):ap ae 28 #[I .u64 n] w fun e w'=>e=aq (ad ⟨(aQ n).toArray⟩)/\Below w.heap.size w w':=by
 have cY:rq n<=20:=Lib.nDigits_le20 n u;have HN:=aa u;clear u;go_enter func28,ntmps28;go_wp2;go_loopw[0,3](fun a s w'=>∃(x:Int)(t:ByteArray),0<=x/\a=I .u64 x/\s=ad t/\t.size<=20/\Hid (x<18446744073709551616/\aQ n=aQ x.toNat++t.data.toList)/\Hid (Below w.heap.size w w'))(fun a _ _=>(intOf a).toNat);case atStart=>exact⟨n,⟨#[]⟩,by omega,J,J,by decide,aa ⟨by have:=HN.out;omega,by simp⟩,aa (Below.refl _ _)⟩
 case round=>
  obtain⟨x,t,l8,rfl,rfl,ht,HD,S⟩:=hrel;have G':0<=x%10:=by omega
  have m6:x%10<10:=by omega
  obtain⟨c,H⟩:∃c:Nat,(c:Int)=48+x%10:=⟨(48+x%10).toNat,by omega⟩;have hC:c<256:=by omega
  have apw:(convert 134 9 (ak (U ⟨wr.heap.size,0,ab⟩) 1 1)).run ae (wr.alloc (.cells #[I aM (48+x%10)] 5))= .ok (ad ⟨#[bB c]⟩) (wr.alloc (.cells #[I aM (48+x%10)] 5)):=by refine WR _ c hC _ ?_;rw[H];exact World.cell?_alloc_at _ _ _ _ J
  obtain⟨B,N⟩:∃B:Int,B=x/10:=⟨_,J⟩;have hw:IntKind.u64.wrap (x.tdiv 10)=B:=by have q:=HD.out.1;rw[Int.tdiv_eq_ediv_of_nonneg l8,IntKind.wrap_u64,N];omega
  have GL:0<=B:=by omega
  by_cases F:x<10
  .have ah_:(B==0)=true:=by rw[beq_iff_eq];omega
   have HF:=aa (show aQ n=[bB c]++t.data.toList by rw[HD.out.2,ZB (by omega),show 48+x.toNat=c by omega]);have G:=aa H;clear H F N;go_wp2;go_ret;refine⟨?_,S.out.alloc S.out.size _⟩;rw[HF.out];show aq (ad (⟨#[bB c]⟩++t))=_;congr 2
  .have ah_:(B==0)=false:=by rw[beq_eq_false_iff_ne];omega
   have HF:=aa (show B<18446744073709551616/\aQ n=aQ B.toNat++([bB c]++t.data.toList)by have q:=HD.out.1;refine⟨by omega,?_⟩;rw[HD.out.2,akD (by omega),show 48+x.toNat%10=c by omega,show B.toNat=x.toNat/10 by omega,List.append_assoc]);have G:=aa H;have HM:=aa (show B.toNat<x.toNat by omega);clear H N;go_wp2;go_round;case rel=>
    refine⟨B,_,GL,J,J,?_,aa ⟨HF.out.1,?_⟩,aa (S.out.alloc S.out.size _)⟩;.have q:=congrArg List.length HF.out.2;rw[tN,cl,cl]at q;rw[ByteArray.size_append,dy t];have h3:(ByteArray.mk #[bB c]).size=1:=J;have h4:[bB c].length=1:=J;omega
    .rw[HF.out.2];congr 1
   case measure=>have:=HM.out;simp[intOf];omega
end Go.Proofs.YtefdakbahplnbaaGreatDoor
namespace Go.Proofs.YtefdakbahplnbaaGreatDoor.Bp
open Go.RowKit
theorem aqg(w:ac)(o:Obj):Below w.heap.size w (w.alloc o):=(Below.refl _ _).alloc (aA _) _
def oZ(l:List Nat):List ag:=l.map fun x:Nat=>I aM (x:Int)
theorem anV(l B:List Nat):oZ (l++B)=oZ l++oZ B:=List.map_append
theorem PM(l:List Nat):(oZ l).length=l.length:=oB _
def kb(k:Nat):List Nat:=[k%256,k/256%256,k/65536%256,k/16777216%256]
theorem Wk:∃i,ae.info? 5=U i/\i.zero=U (I aM 0)/\i.size=1/\i.bytes=1:=by
 have hz:(ae.info? 5).map (·.zero)=U (U (I aM 0)):=by kernel_rfl
 have F:(ae.info? 5).map (·.size)=U 1:=by kernel_rfl
 have hb:(ae.info? 5).map (·.bytes)=U 1:=by kernel_rfl
 cases N:ae.info? 5 with
  |none=>rw[N]at F;simp at F
  |some i=>rw[N]at hz F hb;simp at hz F hb;exact⟨i,J,hz,F,hb⟩
theorem Z_{a_:Array bz}{rest:List bz}{o:bz}{a:Act}{w:ac}{aE:Exit->Act->ac->Prop}(de:o.guard=ab)(s x:Operand)(ho:o.op= .call {callee:= .builtin .append,args:=#[s,x],argTypes:=#[134,134]})(base:Nat)(v:ag)(n:Nat)(l:List Nat)(F:a.eval s=v)(cE:w.ownsRow base 5 1 v n (oZ l))(g m:Nat)(B:List Nat)(GM:Array ag)(hx:a.eval x=ak (U ⟨g,0,ab⟩) m m)(hg:w.heap[g]?=U (.cells GM 5 (0,0)))(N:GM.toList=oZ B)(hm:B.length=m)(u:n<=10000000)(B0:m<=1000)(pE:base<=w.heap.size)(h:∀v' w',w'.ownsRow base 5 1 v' (n+m) (oZ (l++B))->w.grownBy w' v.ownBlock->wpList ae a_ aE rest (a.put o.dst v') w'):wpList ae a_ aE (o::rest) a w:=by
 obtain⟨i,hi,hz,cP,lb⟩:=Wk;refine wpList_append_own (P:=ae) w de s x 134 ho base 5 i _ 1 1 underlying134 hi hz cP lb J (by decide) v n (oZ l) F cE ⟨g,0,ab⟩ m m (oZ B) hx (by rw[PM,hm,Nat.mul_one]) ?_ ?_ (by simp only[maxLen];omega) (by omega) pE ?_
 .intro j ay hu;have sv:(⟨g,0,ab⟩:Addr).add j=⟨g,j,ab⟩:=by unfold Addr.add;split<;>simp_all
  rw[sv,cell_of_row w g j _ _ _ hg,<-hu,<-N,Array.getElem?_toList]
 .intro ay hu;unfold oZ at hu;rw[List.mem_map]at hu;obtain⟨al,_,rfl⟩:=hu;rfl
 .intro v' w' q h2 _;rw[<-anV]at q;exact h v' w' q h2
def ade(l:List Nat):ByteArray:=⟨(l.map bB).toArray⟩
theorem Uv{a_:Array bz}{rest:List bz}{o:bz}{a:Act}{w:ac}{aE:Exit->Act->ac->Prop}(de:o.guard=ab)(x al:Operand)(ho:o.op= .makeSlice 134 x al)(c base:Nat)(hx:a.eval x=I R 0)(hy:a.eval al=I R c)(H:c<=100000)(pE:base<=w.heap.size)(h:∀v' w',w'.ownsRow base 5 1 v' 0 (oZ [])->Below w.heap.size w w'->wpList ae a_ aE rest (a.put o.dst v') w'):wpList ae a_ aE (o::rest) a w:=by obtain⟨i,hi,hz,F,hb⟩:=Wk;have L:=run_make (P:=ae) w 134 5 i _ underlying134 hi hz R R (0:Int) (c:Int) (by omega) (by omega) (by rw[hb];omega) (by omega);rw[F]at L;refine wpList_plain de fun _ A=>?_;unfold Oper.wp execOp;simp only[ho,hx,hy,Sem.run_bind,L,Result.andThen_ok];refine A _ _ (h _ _ ?_ (aqg w _));exact World.ownsRow_made w _ _ pE (by simp only[maxLen];omega) (by rw[size_madeCells])
theorem aqk{w:ac}{base n:Nat}{v:ag}{l:List Nat}(cE:w.ownsRow base 5 1 v n (oZ l))(hl:∀x∈l,x<256)(u:0<n):(convert 134 9 v).run ae w= .ok (ad (ade l)) w:=by
 obtain⟨g,cap,rfl⟩:=Go.Joins.ownsRow_form cE u;have cY:l.length=n:=by have:=cE.1;rw[PM]at this;omega
 have hb:(l.map bB).length=n:=by rw[oB,cY]
 have h:=xh (P:=ae) w 134 9 5 ⟨g,0,ab⟩ cap (l.map bB) underlying134 underlying5 underlying9 fun j hj=>by
  have nz:j<l.length:=by rw[hb]at hj;omega
  rw[cE.cells (g:=g) J j (I aM (l[j]:Nat)) (by unfold oZ;rw[List.getElem?_map,cq nz];rfl)];have hx:=hl _ (List.getElem_mem nz);rw[List.getElem_map,mT,jg (show l[j]<2^8 from hx)]
 rw[hb]at h;exact h
end Go.Proofs.YtefdakbahplnbaaGreatDoor.Bp
