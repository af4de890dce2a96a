/- strconv.Itoa and strings.Cut at this seat. -/
import Derived.Lib.AppendIntMem
import Derived.Laws.Strings3
import Derived.Lib.Slices
import Derived.Test.YtefdakbahplnbaaGreatDoorK7
import Derived.Lib.QuietBelow
open Go.Proofs.Tryz
open Array renaming getElem?_append_left->ao5,size_replicate->TY
open Bool renaming and_eq_false_iff->FG,eq_iff_iff->fs,false_and->AS,true_and->xe
open Go renaming Calls->ap,Regrown->eh,Value->ag,World->ac,below_regrown->cN,cell_regrown->aJ,heap_alloc_new->a7,run_convert_bytes_back->xh,wpQuiet_nil->e6,wp_region_quiet_below->fI
open Go.Calls renaming quiet_of_same->pc,regrown_of->fU
open Go.Ending renaming returned->aq
open Go.IntKind renaming i64->R,u32->aj,u64->ah,u8->aM,wrap_u64->jQ
open Go.Lib renaming decDigits->aQ,decDigits_length->tN,indexByte->kg,nDigits->rq,size_eq->dy,toList_data->tR,zeros24->TV
open Go.Proofs.Tryz renaming prog->ae
open Go.RowKit renaming Below->aD
open Go.RowKit.Below renaming refl->aS
open Go.Value renaming bool->aH,iface->b8,int->I,pointer->av,slice->ak,string->ad,tuple->az
open Int renaming toNat_natCast->d_
open List renaming all_append->AO,all_cons->CU,all_nil->TP,getElem?_eq_getElem->cq,mem_append->jC,mem_singleton->jB,take_of_length_le->li
open Nat renaming le_refl->aA,mod_eq_of_lt->jg,mod_lt->vD
open Option renaming none->ab,some->U
open Option.some renaming inj->dG
open Or renaming inl->sC,inr->pa
open UInt8 renaming ofNat->bB,toNat_ofNat'->mT
namespace Go.Proofs.YtefdakbahplnbaaGreatDoor
open Go.RowKit
def rY(w:ac):Prop:=Lib.TabIs ae w "internal/strconv.uint64pow10" ah Lib.pow10Tab
theorem Ov{w w':ac}(h:rY w)(hb:aD w.heap.size w w'):rY w':=Lib.tabBelow_of_tabIs h w' hb
theorem zz(n:Nat)(u:n<=9223372036854775807)(w:ac)(ht:rY w):ap ae 60 #[I R n] w fun e w'=>e=aq (ad ⟨(aQ n).toArray⟩)/\aD w.heap.size w w':=(Tryz.strconv_Itoa n (by omega) (by omega) w ht).mono fun e w'⟨he,k,os,hw⟩=>⟨by rw[he,Lib.itoa_nonneg],by rw[hw];exact⟨J,J,J,by simp[Sort.grow],fun k z=>by simp[Sort.grow,ao5 z]⟩⟩
theorem afL(s gt:ByteArray)(i:Nat)(hx:∀w,ap ae 161 #[ad s,ad gt] w fun e w'=>e=aq (I R i)/\w'=w)(hl:i+gt.size<=s.size)(F:s.size<4294967296)(w:ac):ap ae 241 #[ad s,ad gt] w fun e w'=>e=aq (az #[ad (s.extract 0 i),ad (s.extract (i+gt.size) s.size),aH true])/\∃n,w'=w.drewN n:=by
 have c1:(0:Int)<=i:=by omega
 have c2:(i:Int)<=s.size:=by omega
 have c3:(0:Int)<=(i:Int)+gt.size:=by omega
 have fj:(i:Int)+gt.size<=s.size:=by omega
 go_enter func241,ntmps241;go_wp2_with(go_at_call 161;refine(hx _).mono ?_;rintro e w'⟨rfl,rfl⟩);go_quiet(fail);go_wp2;go_ret3;exact⟨J,_,J⟩
theorem afa(s:ByteArray)(c:UInt8)(i:Nat)(hi:kg s.data.toList c=i)(F:s.size<4294967296)(w:ac):ap ae 214 #[ad s,ad ⟨#[c]⟩] w fun e w'=>e=aq (az #[ad (s.extract 0 i),ad (s.extract (i+1) s.size),aH true])/\∃n,w'=w.drewN n:=by
 have hl:i<s.size:=by rw[dy];exact(SZ _ _ _ hi).1
 have H:=afL s ⟨#[c]⟩ i (fun w=>(Tryz.stringslite_Index_one s c w).mono fun e w'⟨he,hw⟩=>⟨by rw[he,hi],hw⟩) hl F w;go_enter func214,ntmps214;go_wp2_with(go_at_call 241;refine H.mono ?_;rintro e w'⟨rfl,n,rfl⟩);go_ret3;exact⟨J,_,J⟩
theorem ahD(s:ByteArray)(c:UInt8)(hi:kg s.data.toList c<0)(w:ac):ap ae 214 #[ad s,ad ⟨#[c]⟩] w fun e w'=>e=aq (az #[ad s,ad ⟨#[]⟩,aH false])/\∃n,w'=w.drewN n:=by
 have H:ap ae 241 #[ad s,ad ⟨#[c]⟩] w fun e w'=>e=aq (az #[ad s,ad ⟨#[]⟩,aH false])/\∃n,w'=w.drewN n:=by go_enter func241,ntmps241;go_wp2_with(go_at_call 161;refine(Tryz.stringslite_Index_one _ _ _).mono ?_;rintro e w'⟨rfl,rfl⟩);go_ret3;exact⟨J,0,J⟩
 go_enter func214,ntmps214;go_wp2_with(go_at_call 241;refine H.mono ?_;rintro e w'⟨rfl,n,rfl⟩);go_ret3;exact⟨J,_,J⟩
end Go.Proofs.YtefdakbahplnbaaGreatDoor
namespace Go.Proofs.YtefdakbahplnbaaGreatDoor
open Go.RowKit Go.Sort
theorem ajE(w:ac)(o:Obj)(fK:Array UInt8)(k:Nat):Below w.heap.size w ((putRow (fun(b:UInt8)=>I aM (b.toNat:Int)) (w.alloc o) w.heap.size 0 fK).drewN k):=by rw[alloc_eq_grow];obtain⟨os',_,e⟩:=putRow_grow_new (fun(b:UInt8)=>I aM (b.toNat:Int)) w #[o] w.heap.size 0 fK (aA _);rw[e];exact⟨J,J,J,by simp[Sort.grow],fun k z=>by simp[Sort.grow,ao5 z]⟩
set_option maxHeartbeats 2000000 in theorem anE(ay:Nat)(uF:ay<18446744073709551616)(w:ac)(ht:rY w):ap ae 218 #[I ah ay,I R 10] w fun e w'=>e=aq (ad ⟨(aQ ay).toArray⟩)/\Below w.heap.size w w':=by
 by_cases F:ay<100
 .have H:R.wrap (ay:Int)=ay:=by rw[IntKind.wrap_i64];omega
  have q:(ay:Int)<100:=by omega
  go_enter func218,ntmps218;go_wp2_with(go_at_call 179;refine(Tryz.internal_strconv_small ay F _).mono ?_;rintro e w'⟨rfl,rfl⟩);go_ret;exact⟨J,aS _ _⟩
 .have SC:1<=ay:=by omega
  have q:¬(ay:Int)<100:=by omega
  have apJ:rq ay<=20:=by have:=Lib.numDigits_eq ay SC uF;split at this<;>omega
  have hb3:rq ay<=24:=by omega
  have Cs:∀W,(Instr.sliceAt 263 (av (U ⟨w.heap.size,0,ab⟩)) ab (U (I R (rq ay:Int))) ab).run ae W= .ok (ak (U ⟨w.heap.size,0,ab⟩) (rq ay) 24) W:=fun W=>by
   have jN:ae.arrayLen 263=24:=by kernel_rfl
   rw[run_sliceAt_array_h W 263 ⟨w.heap.size,0,ab⟩ (by kernel_rfl) R (rq ay:Int) (by omega) (by rw[jN];omega)];go_simp
  have Ss:=Lib.holds_zero0 w 263 (rq ay) (by omega);have Us:=Tryz.internal_strconv_formatBase10 w.heap.size 0 24 ay (Array.replicate (rq ay) 0) (w.alloc (.cells TV 263)) Ss (by rw[TY];exact Lib.lt_pow_nDigits ay) uF (by rw[TY];omega);rw[TY]at Us;have SJ:=Lib.hid Ss;clear Ss;go_enter func218,ntmps218;go_wp2_with(first|(go_at_call 180;refine(Tryz.internal_strconv_numDigits ay SC uF _ (Lib.tabIs_alloc ht _)).mono ?_;rintro e w'⟨rfl,rfl⟩));go_at_call 181;refine Us.mono ?_;rintro e w'⟨rfl,k,v',fK,rfl,hF⟩;have j0:(convert 134 9 (ak (U ⟨w.heap.size,0,ab⟩) (rq ay) 24)).run ae ((putRow (fun(b:UInt8)=>I aM (b.toNat:Int)) (w.alloc (.cells TV 263)) w.heap.size 0 fK).drewN k)= .ok (ad ⟨(aQ ay).toArray⟩) ((putRow (fun(b:UInt8)=>I aM (b.toNat:Int)) (w.alloc (.cells TV 263)) w.heap.size 0 fK).drewN k):=by have h:=xh (P:=ae) ((putRow (fun(b:UInt8)=>I aM (b.toNat:Int)) (w.alloc (.cells TV 263)) w.heap.size 0 fK).drewN k) 134 9 5 ⟨w.heap.size,0,ab⟩ 24 (aQ ay) underlying134 underlying5 underlying9 (fun j hj=>by rw[Lib.row_is_numeral hF j hj,Lib.add_plain,World.cell?_drewN];exact cell?_putRow (fun(b:UInt8)=>I aM (b.toNat:Int)) _ w.heap.size 0 _ fK SJ.out (by rw[hF.size,TY]) j (by rw[hF.size];rw[tN]at hj;exact hj));rw[tN]at h;exact h
  go_wp2;go_ret;exact⟨J,ajE _ _ _ _⟩
theorem ZM(ay:Nat)(uF:ay<18446744073709551616)(w:ac)(ht:rY w):ap ae 177 #[I ah ay,I R 10] w fun e w'=>e=aq (ad ⟨(aQ ay).toArray⟩)/\Below w.heap.size w w':=by have ge:=anE ay uF w ht;obtain⟨d,hd⟩:∃d:ByteArray,d=⟨(aQ ay).toArray⟩:=⟨_,J⟩;rw[<-hd]at ge⊢;clear hd;go_enter func177,ntmps177;go_wp2_with(go_at_call 218;refine ge.mono ?_;rintro e w'⟨rfl,hb⟩);go_ret;exact⟨J,hb⟩
theorem Qr(ay:Nat)(uF:ay<18446744073709551616)(w:ac)(ht:rY w):ap ae 173 #[I ah ay] w fun e w'=>e=aq (ad ⟨(aQ ay).toArray⟩)/\Below w.heap.size w w':=by have ge:=ZM ay uF w ht;obtain⟨d,hd⟩:∃d:ByteArray,d=⟨(aQ ay).toArray⟩:=⟨_,J⟩;rw[<-hd]at ge⊢;clear hd;go_enter func173,ntmps173;go_wp2_with(go_at_call 177;refine ge.mono ?_;rintro e w'⟨rfl,hb⟩);go_ret;exact⟨J,hb⟩
end Go.Proofs.YtefdakbahplnbaaGreatDoor
namespace Go.Proofs.YtefdakbahplnbaaGreatDoor
open Go.RowKit
theorem abu(k:Nat)(z:k<32):cA k=cA (k+1)*2:=by unfold cA;rw[show 32-k=(32-(k+1))+1 by omega,Nat.pow_succ]
theorem Xm(k:Nat):2^(31-k)=cA (k+1):=by unfold cA;rw[show 31-k=32-(k+1)by omega]
theorem ajg(ip k:Nat)(z:k<32):ip%cA k=ip%cA (k+1)+cA (k+1)*(ip/2^(31-k)%2):=by rw[abu k z,Nat.mod_mul,Xm]
theorem M2(ip k:Nat)(z:k<32):ip/cA (k+1)=2*(ip/cA k)+ip/2^(31-k)%2:=by rw[abu k z,Xm,<-Nat.div_div_eq_div_mul];omega
theorem U5(x al:Nat):∀j k,k+j<=32->x/cA (k+j)=al/cA (k+j)->x/cA k=al/cA k|0,_,_,h=>h|j+1,k,z,h=>by have h':x/cA (k+1)=al/cA (k+1):=U5 x al j (k+1) (by omega) (by rw[show k+1+j=k+(j+1)by omega];exact h);rw[M2 x k (by omega),M2 al k (by omega)]at h';omega
theorem Fb(ip:Nat)(bt:ip<4294967296)(b lo hi:Int)(hb:-9223372036854775808<=b/\b<=9223372036854775807)(hl:-9223372036854775808<=lo/\lo<=9223372036854775807)(hh:-9223372036854775808<=hi/\hi<=9223372036854775807)(w:ac):ap ae 77 #[oQ ip b lo hi] w fun e w'=>e=aq (I R (cf ip b lo hi))/\aD w.heap.size w w':=by
 by_cases c0:b<0;.have HF:=aa (show cf ip b lo hi=1 by unfold cf;rw[if_pos (by omega)]);have d0:decide (b<0)=true:=decide_eq_true c0;go_enter func77,ntmps77;go_wp2;go_ret;exact⟨by rw[HF.out];rfl,(aS _ _).alloc (aA _) _⟩
 .have d0:decide (b<0)=false:=decide_eq_false c0;by_cases c1:32<b;.have HF:=aa (show cf ip b lo hi=1 by unfold cf;rw[if_pos (by omega)]);have d1:decide ((32:Int)<b)=true:=decide_eq_true c1;go_enter func77,ntmps77;go_wp2;go_ret;exact⟨by rw[HF.out];rfl,(aS _ _).alloc (aA _) _⟩
  .have d1:decide ((32:Int)<b)=false:=decide_eq_false c1;by_cases c2:lo<0;.have HF:=aa (show cf ip b lo hi=1 by unfold cf;rw[if_pos (by omega)]);have d2:decide (lo<0)=true:=decide_eq_true c2;go_enter func77,ntmps77;go_wp2;go_ret;exact⟨by rw[HF.out];rfl,(aS _ _).alloc (aA _) _⟩
   .have d2:decide (lo<0)=false:=decide_eq_false c2;by_cases c3:65535<hi;.have HF:=aa (show cf ip b lo hi=1 by unfold cf;rw[if_pos (by omega)]);have d3:decide ((65535:Int)<hi)=true:=decide_eq_true c3;go_enter func77,ntmps77;go_wp2;go_ret;exact⟨by rw[HF.out];rfl,(aS _ _).alloc (aA _) _⟩
    .have d3:decide ((65535:Int)<hi)=false:=decide_eq_false c3;by_cases fj:hi<lo;.have HF:=aa (show cf ip b lo hi=1 by unfold cf;rw[if_pos (by omega)]);have d4:decide (hi<lo)=true:=decide_eq_true fj;go_enter func77,ntmps77;go_wp2;go_ret;exact⟨by rw[HF.out];rfl,(aS _ _).alloc (aA _) _⟩
     .have d4:decide (hi<lo)=false:=decide_eq_false fj;obtain⟨k0,rfl⟩:∃k:Nat,b=k:=⟨b.toNat,by omega⟩;have z:k0<=32:=by omega
      have HF:=aa (show cf ip (k0:Int) lo hi=if ip%cA k0=0 then 0 else 3 by unfold cf;rw[if_neg (by omega),d_]);go_enter func77,ntmps77;go_wp2;go_loop[3](fun i=>∃k:Nat,k0<=k/\k<=32/\i=I R k/\Hid (ip%cA k0=ip%cA k))(fun i=>32-(intOf i).toNat);case atStart=>exact⟨k0,aA _,z,J,aa J⟩
      case round=>
       obtain⟨k,dY,gG,rfl,HI⟩:=hrel;by_cases am:k<32
       .have HS:=aa (ajg ip k am);by_cases c:ip/2^(31-k)%2=1;.have S:=aa (show(ip/2^(31-k)%2==1)=true by rw[beq_iff_eq];exact c);have HV:=aa (show cf ip (k0:Int) lo hi=3 by rw[HF.out,HI.out,HS.out,c,if_neg];have:=IC (k+1);omega);clear c;go_wp2_with(go_at_call 111;refine(Ej ip k bt (by omega) _).mono ?_;rw[S.out];rintro e wx⟨rfl,nV⟩;rw[nV];clear nV wx);go_ret;exact⟨by rw[HV.out];rfl,(aS _ _).alloc (aA _) _⟩
        .have S:=aa (show(ip/2^(31-k)%2==1)=false by rw[beq_eq_false_iff_ne];exact c);have HN:=aa (show ip%cA k0=ip%cA (k+1)by rw[HI.out,HS.out,show ip/2^(31-k)%2=0 by omega];rfl);clear c;go_wp2_with(go_at_call 111;refine(Ej ip k bt (by omega) _).mono ?_;rw[S.out];rintro e wx⟨rfl,nV⟩;rw[nV];clear nV wx);go_round;case rel=>exact⟨k+1,by omega,by omega,by go_num,HN⟩
         case measure=>simp[intOf];omega
       .obtain rfl:k=32:=by omega
        have HV:=aa (show cf ip (k0:Int) lo hi=0 by rw[HF.out,HI.out,if_pos];rw[show cA 32=1 from J];exact Nat.mod_one ip);go_wp2;go_ret;exact⟨by rw[HV.out];rfl,(aS _ _).alloc (aA _) _⟩
def pL(ip:Nat)(b lo hi:Int)(x:Nat)(aB:Int):Bool:=decide (cf ip b lo hi=0)&&(decide (x/cA b.toNat=ip/cA b.toNat)&&(decide (lo<=aB)&&decide (aB<=hi)))
theorem P_{w W:ac}{ip:Nat}{b lo hi:Int}(hW:aD (w.heap.size+1) (w.alloc (.cells #[I aj ip,I R b,I R lo,I R hi] 127)) W):W.cell? ⟨w.heap.size,0,ab⟩=U (I aj ip)/\W.cell? ⟨w.heap.size,1,ab⟩=U (I R b)/\W.cell? ⟨w.heap.size,2,ab⟩=U (I R lo)/\W.cell? ⟨w.heap.size,3,ab⟩=U (I R hi):=by
 have H:∀o,W.cell? ⟨w.heap.size,o,ab⟩=(#[I aj ip,I R b,I R lo,I R hi]:Array ag)[o]?:=fun o=>by rw[hW.cell (p:=⟨w.heap.size,o,ab⟩) (Nat.lt_succ_self _)];exact World.cell?_alloc_at _ _ _ _ J
 exact⟨H 0,H 1,H 2,H 3⟩
theorem ae'(ip:Nat)(bt:ip<4294967296)(b lo hi:Int)(hb:-9223372036854775808<=b/\b<=9223372036854775807)(hl:-9223372036854775808<=lo/\lo<=9223372036854775807)(hh:-9223372036854775808<=hi/\hi<=9223372036854775807)(x:Nat)(hx:x<4294967296)(aB:Int)(w:ac):ap ae 117 #[oQ ip b lo hi,I aj x,I R aB] w fun e w'=>e=aq (aH (pL ip b lo hi x aB))/\aD w.heap.size w w':=by
 by_cases M:cf ip b lo hi=0
 .obtain⟨⟨l9,Vi⟩,_,_⟩:=rM M;obtain⟨k0,rfl⟩:∃k:Nat,b=k:=⟨b.toNat,by omega⟩;have kH:k0<=32:=by omega
  have HV:=aa (show pL ip (k0:Int) lo hi x aB=(decide (x/cA k0=ip/cA k0)&&(decide (lo<=aB)&&decide (aB<=hi)))by unfold pL;rw[decide_eq_true M,xe,d_]);have HF:=aa M;clear M;go_enter func117,ntmps117;go_wp2_with(go_at_call 77;refine(Fb ip bt k0 lo hi hb hl hh _).mono ?_;rw[HF.out];rintro e W⟨rfl,hW⟩;have ex:aD (w.heap.size+1) (w.alloc (.cells #[I aj ip,I R k0,I R lo,I R hi] 127)) W:=hW.mono (by simp);obtain⟨h0,q,h2,h3⟩:=P_ ex);have E7:aD w.heap.size w W:=((aS w.heap.size w).alloc (aA _) _).trans (hW.mono (by simp));have HW:=aa E7;clear hW ex E7;have h0:∀m,(W.drewN m).cell? ⟨w.heap.size,0,ab⟩=_:=fun _=>h0;have q:∀m,(W.drewN m).cell? ⟨w.heap.size,1,ab⟩=_:=fun _=>q;have h2:∀m,(W.drewN m).cell? ⟨w.heap.size,2,ab⟩=_:=fun _=>h2;have h3:∀m,(W.drewN m).cell? ⟨w.heap.size,3,ab⟩=_:=fun _=>h3;go_loopw[7](fun i w'=>∃k m:Nat,k<=k0/\i=I R k/\w'=W.drewN m/\Hid (x/cA k=ip/cA k))(fun i _=>k0-(intOf i).toNat);case atStart=>exact⟨0,0,by omega,J,J,aa (by rw[show cA 0=4294967296 from J,Nat.div_eq_of_lt hx,Nat.div_eq_of_lt bt])⟩
  case round=>
   obtain⟨k,m,z,rfl,rfl,HI⟩:=hrel;by_cases am:k<k0
   .have HX:=aa (M2 x k (by omega));have HP:=aa (M2 ip k (by omega));by_cases c:x/2^(31-k)%2=ip/2^(31-k)%2
    .have HN:=aa (show x/cA (k+1)=ip/cA (k+1)by rw[HX.out,HP.out,HI.out,c]);have cV:((x/2^(31-k)%2==1)==(ip/2^(31-k)%2==1))=true:=by rw[c];simp
     clear c;go_wp2;go_quiet((go_at_call 111;first|exact pc (Ej _ k (by assumption) (by omega) _)|exact JR (Ej _ k (by assumption) (by omega) _)));go_wp2;go_round;case rel=>exact⟨k+1,_,by omega,by go_num,J,HN⟩
     case measure=>simp[intOf];omega
    .have lK:=aa (show pL ip (k0:Int) lo hi x aB=false by rw[HV.out,decide_eq_false,AS];intro h;have h':=U5 x ip (k0-(k+1)) (k+1) (by omega) (by rw[show k+1+(k0-(k+1))=k0 by omega];exact h);rw[HX.out,HP.out,HI.out]at h';omega);have cV:((x/2^(31-k)%2==1)==(ip/2^(31-k)%2==1))=false:=by rw[beq_eq_false_iff_ne];intro h;rw[fs]at h;simp at h;omega
     clear c;go_wp2;go_quiet((go_at_call 111;first|exact pc (Ej _ k (by assumption) (by omega) _)|exact JR (Ej _ k (by assumption) (by omega) _)));go_wp2;go_ret;exact⟨by rw[lK.out];rfl,jq (jq HW.out _) _⟩
   .obtain rfl:k=k0:=by omega
    have lK:=aa (show pL ip (k:Int) lo hi x aB=(decide (lo<=aB)&&decide (aB<=hi))by rw[HV.out,decide_eq_true HI.out,xe]);by_cases c1:lo<=aB;.have d1:decide (lo<=aB)=true:=decide_eq_true c1;go_wp2;go_ret;exact⟨by rw[lK.out,d1,xe];rfl,jq HW.out _⟩
    .have d1:decide (lo<=aB)=false:=decide_eq_false c1;go_wp2;go_ret;exact⟨by rw[lK.out,d1,AS];rfl,jq HW.out _⟩
 .have hf1:0<cf ip b lo hi:=by omega
  have HV:=aa (show pL ip b lo hi x aB=false by unfold pL;rw[decide_eq_false M,AS]);go_enter func117,ntmps117;go_wp2_with(go_at_call 77;refine(Fb ip bt b lo hi hb hl hh _).mono ?_;rintro e W⟨rfl,hW⟩);go_ret;exact⟨by rw[HV.out];rfl,((aS w.heap.size w).alloc (aA _) _).trans (hW.mono (by simp))⟩
end Go.Proofs.YtefdakbahplnbaaGreatDoor
namespace Go.Proofs.YtefdakbahplnbaaGreatDoor
open Go.RowKit Go.Sort
theorem MF(w:ac)(ip:Nat)(b lo hi:Int):∃V,V=w.alloc (.cells #[I aj ip,I R b,I R lo,I R hi] 127)/\Below w.heap.size w V/\V.cell? ⟨w.heap.size,0,ab⟩=U (I aj ip)/\V.cell? ⟨w.heap.size,1,ab⟩=U (I R b)/\V.cell? ⟨w.heap.size,2,ab⟩=U (I R lo)/\V.cell? ⟨w.heap.size,3,ab⟩=U (I R hi):=⟨_,J,(aS _ _).alloc (aA _) _,P_ (aS _ _)⟩
theorem yf{P:Program}{f:FuncId}{args:Array ag}{V:ac}{d:Nat}{os:Array Obj}{v:ag}(h:ap P f args (grow (redrawn V d) os) fun e w'=>e=aq v/\w'=grow (redrawn V d) os):ap P f args (grow (redrawn V d) os) fun e bF=>e=aq v/\∃p:eh,bF=grow (redrawn V p.d) p.os:=h.mono fun _ _⟨he,hw⟩=>⟨he,⟨d,os⟩,hw⟩
theorem adn(ip:Nat)(bt:ip<4294967296)(b lo hi:Int)(hb:-9223372036854775808<=b/\b<=9223372036854775807)(hl:-9223372036854775808<=lo/\lo<=9223372036854775807)(hh:-9223372036854775808<=hi/\hi<=9223372036854775807)(x:Nat)(aB n:Int)(HE:Hid (cj (cf ip b lo hi)=b8 43 (I R n)))(w:ac):ap ae 255 #[oQ ip b lo hi,I aj x,I R aB] w fun e w'=>e=aq (aH false)/\Below w.heap.size w w':=by
 go_enter func255,ntmps255;go_wp2;obtain⟨V,hV,hB,h0,q,h2,h3⟩:=MF w ip b lo hi;rw[<-hV];clear hV;have S:=aa hB;clear hB;have g0:=aJ h0;have g1:=aJ q;have g2:=aJ h2;have g3:=aJ h3;have wv:∀d os,ap ae 134 #[.agg #[I aj ip,I R b,I R lo,I R hi]] (grow (redrawn V d) os) fun e bF=>e=aq (b8 43 (I R n))/\∃p:eh,bF=grow (redrawn V p.d) p.os:=fun d os=>fU ((xI ip bt b lo hi hb hl hh _).mono fun e w' h=>by rw[HE.out]at h;exact h);refine fI (by kernel_rfl) (by kernel_rfl) ?_;repeat(go_big_quiet_step((go_at_call 134;exact wv _ _)))
 refine e6 ?_;intro _ bT;obtain⟨⟨dq,bJ⟩,bY⟩:=bT;subst bY;go_wp2;go_ret;exact⟨J,S.out.trans ((cN V dq bJ).mono S.out.size)⟩
set_option maxHeartbeats 1000000 in theorem aii(ip:Nat)(bt:ip<4294967296)(b lo hi:Int)(hb:-9223372036854775808<=b/\b<=9223372036854775807)(hl:-9223372036854775808<=lo/\lo<=9223372036854775807)(hh:-9223372036854775808<=hi/\hi<=9223372036854775807)(x:Nat)(hx:x<4294967296)(aB:Int)(w:ac):ap ae 255 #[oQ ip b lo hi,I aj x,I R aB] w fun e w'=>e=aq (aH (pL ip b lo hi x aB))/\Below w.heap.size w w':=by
 by_cases M:cf ip b lo hi=0
 .obtain⟨⟨l9,Vi⟩,_,L⟩:=rM M;obtain⟨k0,rfl⟩:∃k:Nat,b=k:=⟨b.toNat,by omega⟩;have kH:k0<=32:=by omega
  rw[d_]at L;have HV:=aa (show pL ip (k0:Int) lo hi x aB=(decide (x/cA k0=ip/cA k0)&&(decide (lo<=aB)&&decide (aB<=hi)))by unfold pL;rw[decide_eq_true M,xe,d_]);have HF:=aa (show cj (cf ip (k0:Int) lo hi)= .nilIface by rw[M];rfl);have er:bits .and aj (x:Int) (pH k0:Int)=((x/cA k0*cA k0:Nat):Int):=by rw[u32_and_nat _ _ hx (Wd k0),acX x k0 hx kH]
  have N:(x/cA k0*cA k0=ip)↔(x/cA k0=ip/cA k0):=by
   have q:=Nat.div_add_mod ip (cA k0);rw[L,Nat.add_zero,Nat.mul_comm]at q;constructor;.intro h;rw[<-q]at h;exact Nat.eq_of_mul_eq_mul_right (IC k0) h
   .intro h;rw[h,q]
  have HQ:=aa (show(((x/cA k0*cA k0:Nat):Int)==(ip:Int))=decide (x/cA k0=ip/cA k0)by rw[fs];simp only[beq_iff_eq,decide_eq_true_eq];rw[<-N];omega);obtain⟨B,mH⟩:=af (x/cA k0*cA k0);rw[<-mH]at er HQ;clear M L N mH;cases hd:decide (x/cA k0=ip/cA k0)with
   |false=>
    rw[hd]at HQ HV;have QL:=HQ.out;go_enter func255,ntmps255;go_wp2;obtain⟨V,hV,hB,h0,q,h2,h3⟩:=MF w ip k0 lo hi;rw[<-hV];clear hV;have S:=aa hB;clear hB;have g0:=aJ h0;have g1:=aJ q;have g2:=aJ h2;have g3:=aJ h3;have wv:∀d os,ap ae 134 #[.agg #[I aj ip,I R k0,I R lo,I R hi]] (grow (redrawn V d) os) fun e bF=>e=aq .nilIface/\∃p:eh,bF=grow (redrawn V p.d) p.os:=fun d os=>fU ((xI ip bt k0 lo hi hb hl hh _).mono fun e w' h=>by rw[HF.out]at h;exact h);have F6:∀d os,ap ae 176 #[I R k0] (grow (redrawn V d) os) fun e bF=>e=aq (I aj (pH k0))/\∃p:eh,bF=grow (redrawn V p.d) p.os:=fun d os=>yf (B2 k0 kH _);refine fI (by kernel_rfl) (by kernel_rfl) ?_;repeat(go_big_quiet_step(first|(go_at_call 134;exact wv _ _)|(go_at_call 176;exact F6 _ _)))
    refine e6 ?_;intro _ bT;obtain⟨⟨dq,bJ⟩,bY⟩:=bT;subst bY;go_wp2;go_ret;exact⟨by rw[HV.out];rfl,S.out.trans ((cN V dq bJ).mono S.out.size)⟩
   |true=>
    rw[hd,xe]at HV;rw[hd]at HQ;have QL:=HQ.out;by_cases c1:lo<=aB
    .have d1:decide (lo<=aB)=true:=decide_eq_true c1;rw[d1,xe]at HV;go_enter func255,ntmps255;go_wp2;obtain⟨V,hV,hB,h0,q,h2,h3⟩:=MF w ip k0 lo hi;rw[<-hV];clear hV;have S:=aa hB;clear hB;have g0:=aJ h0;have g1:=aJ q;have g2:=aJ h2;have g3:=aJ h3;have wv:∀d os,ap ae 134 #[.agg #[I aj ip,I R k0,I R lo,I R hi]] (grow (redrawn V d) os) fun e bF=>e=aq .nilIface/\∃p:eh,bF=grow (redrawn V p.d) p.os:=fun d os=>fU ((xI ip bt k0 lo hi hb hl hh _).mono fun e w' h=>by rw[HF.out]at h;exact h);have F6:∀d os,ap ae 176 #[I R k0] (grow (redrawn V d) os) fun e bF=>e=aq (I aj (pH k0))/\∃p:eh,bF=grow (redrawn V p.d) p.os:=fun d os=>yf (B2 k0 kH _);refine fI (by kernel_rfl) (by kernel_rfl) ?_;repeat(go_big_quiet_step(first|(go_at_call 134;exact wv _ _)|(go_at_call 176;exact F6 _ _)))
     refine e6 ?_;intro _ bT;obtain⟨⟨dq,bJ⟩,bY⟩:=bT;subst bY;go_wp2;go_ret;exact⟨by rw[HV.out];rfl,S.out.trans ((cN V dq bJ).mono S.out.size)⟩
    .have d1:decide (lo<=aB)=false:=decide_eq_false c1;rw[d1,AS]at HV;go_enter func255,ntmps255;go_wp2;obtain⟨V,hV,hB,h0,q,h2,h3⟩:=MF w ip k0 lo hi;rw[<-hV];clear hV;have S:=aa hB;clear hB;have g0:=aJ h0;have g1:=aJ q;have g2:=aJ h2;have g3:=aJ h3;have wv:∀d os,ap ae 134 #[.agg #[I aj ip,I R k0,I R lo,I R hi]] (grow (redrawn V d) os) fun e bF=>e=aq .nilIface/\∃p:eh,bF=grow (redrawn V p.d) p.os:=fun d os=>fU ((xI ip bt k0 lo hi hb hl hh _).mono fun e w' h=>by rw[HF.out]at h;exact h);have F6:∀d os,ap ae 176 #[I R k0] (grow (redrawn V d) os) fun e bF=>e=aq (I aj (pH k0))/\∃p:eh,bF=grow (redrawn V p.d) p.os:=fun d os=>yf (B2 k0 kH _);refine fI (by kernel_rfl) (by kernel_rfl) ?_;repeat(go_big_quiet_step(first|(go_at_call 134;exact wv _ _)|(go_at_call 176;exact F6 _ _)))
     refine e6 ?_;intro _ bT;obtain⟨⟨dq,bJ⟩,bY⟩:=bT;subst bY;go_wp2;go_ret;exact⟨by rw[HV.out];rfl,S.out.trans ((cN V dq bJ).mono S.out.size)⟩
 .obtain⟨n,u⟩:∃n:Int,n=(cf ip b lo hi:Nat):=⟨_,J⟩;have HE:=aa (show cj (cf ip b lo hi)=b8 43 (I R n)by unfold cj;rw[if_neg M,u]);rw[show pL ip b lo hi x aB=false by unfold pL;rw[decide_eq_false M,AS]];exact adn ip bt b lo hi hb hl hh x aB n HE w
end Go.Proofs.YtefdakbahplnbaaGreatDoor
namespace Go.Proofs.YtefdakbahplnbaaGreatDoor
open Go.RowKit
def ajK:Option Nat->ag|ab=>az #[I R 0,aH false]|U n=>az #[I R n,aH true]
theorem Mk(s:ByteArray)(k:Nat)(h:k<s.size):s.data.toList.take (k+1)=s.data.toList.take k++[bB (an s k)]:=by
 have z:k<s.data.toList.length:=by rw[<-dy];exact h
 rw[List.take_add_one,cq z];unfold an;rw[List.getD_eq_getElem?_getD,cq z];simp
theorem CR(n:Nat)(h:n<256):eD (bB n)=(decide (48<=n)&&decide (n<=57)):=by unfold eD;rw[mT,jg h]
theorem Wl(l:List UInt8)(k:Nat)(h:(l.take k).all eD=false):l.all eD=false:=by
 cases hb:l.all eD with
  |false=>rfl
  |true=>rw[List.all_eq_true]at hb;have:(l.take k).all eD=true:=List.all_eq_true.2 fun x hx=>hb x (List.mem_of_mem_take hx);rw[h]at this;cases this
theorem R5(s:ByteArray)(F:s.size<4294967296)(w:ac):ap ae 215 #[ad s] w fun e w'=>e=aq (ajK (jE s.data.toList))/\∃n,w'=w.drewN n:=by
 by_cases h0:s.size=0;.have HV:=aa (show jE s.data.toList=ab by unfold jE;rw[if_pos (sC (by rw[<-dy];exact h0))]);go_enter func215,ntmps215;go_wp2;go_ret2;exact⟨by rw[HV.out];rfl,0,J⟩
 .have b_:((s.size:Int)==0)=false:=by rw[beq_eq_false_iff_ne];omega
  by_cases h5:5<s.size;.have HV:=aa (show jE s.data.toList=ab by unfold jE;rw[if_pos (pa (sC (by rw[<-dy];exact h5)))]);go_enter func215,ntmps215;go_wp2;go_ret2;exact⟨by rw[HV.out];rfl,0,J⟩
  .have fE:=cd s 0 (by omega);have hd:s.data.toList.head?=U (bB (an s 0)):=by
    have:=Mk s 0 (by omega);cases hl:s.data.toList with
     |nil=>rw[hl]at this;simp at this
     |cons x r=>rw[hl]at this;simpa using this
   by_cases q:1<s.size/\an s 0=48
   .have HV:=aa (show jE s.data.toList=ab by unfold jE;rw[if_pos (pa (pa (sC ⟨by rw[<-dy];exact q.1,by rw[hd,q.2];rfl⟩)))]);have c1:((an s 0:Int)==48)=true:=by rw[beq_iff_eq];omega
    have c2:(1:Int)<s.size:=by omega
    clear hd;go_enter func215,ntmps215;go_wp2;go_ret2;exact⟨by rw[HV.out];rfl,0,J⟩
   .have HR:=aa (show jE s.data.toList=if s.data.toList.all eD=false then ab else U (js 0 s.data.toList)by
     unfold jE;rw[hd];by_cases ha:s.data.toList.all eD=false;.rw[if_pos (pa (pa (pa ha))),if_pos ha]
     .rw[if_neg ha,if_neg];rw[<-dy];rintro(h|h|⟨h,h'⟩|h);.omega
      .omega
      .refine q ⟨h,?_⟩;have:=congrArg UInt8.toNat (dG h');rw[mT,jg (ea s 0)]at this;exact this
      .exact ha h);have z:(1:Int)<s.size->((an s 0:Int)==48)=false:=fun h=>by rw[beq_eq_false_iff_ne];intro h';exact q ⟨by omega,by omega⟩
    clear hd q;go_enter func215,ntmps215;go_wp2;all_goals
     go_loopw[26,4](fun i x w'=>∃k m:Nat,k<=s.size/\i=I R k/\(∃n:Nat,n<100000/\x=I R n/\Hid (n=js 0 (s.data.toList.take k)))/\w'=w.drewN m/\Hid ((s.data.toList.take k).all eD=true))(fun i _ _=>s.size-(intOf i).toNat);case atStart=>exact⟨0,0,by omega,J,⟨0,by omega,J,aa J⟩,J,aa J⟩
     case round=>
      obtain⟨k,m,z,rfl,⟨n,u,rfl,HN⟩,rfl,HA⟩:=hrel;by_cases am:k<s.size
      .have nh:=cd s k am;have uj:=ea s k;have S:=aa (Mk s k am);by_cases sO:48<=an s k/\an s k<=57
       .have tD:=aa (show(s.data.toList.take (k+1)).all eD=true by rw[S.out,AO,HA.out];simp[CR _ uj,sO.1,sO.2]);have yP:=aa (show n*10+(an s k-48)=js 0 (s.data.toList.take (k+1))by rw[S.out,Mh,<-HN.out,mT,jg uj]);have lM:n*10+(an s k-48)<100000:=by have q:=Yg _ 0 tD.out;rw[<-yP.out,List.length_take,<-dy]at q;have h2:10^min (k+1) s.size<=10^5:=Nat.pow_le_pow_right (by decide) (by omega);omega
        go_wp2;go_round;case rel=>exact⟨k+1,m,by omega,by go_num,⟨n*10+(an s k-48),lM,by go_num,yP⟩,J,tD⟩
        case measure=>simp[intOf];omega
       .have HV:=aa (show jE s.data.toList=ab by rw[HR.out,if_pos];refine Wl _ (k+1) ?_;rw[S.out,AO,HA.out];simp only[CU,TP,CR _ uj,Bool.and_true,xe];rw[FG];simp;omega);go_wp2;all_goals go_ret2;exact⟨by rw[HV.out];rfl,m,J⟩
      .obtain rfl:k=s.size:=by omega
       have HV:=aa (show jE s.data.toList=U n by rw[li (by rw[<-dy];omega)]at HN HA;rw[HR.out,HA.out,if_neg (by decide),<-HN.out]);go_wp2;go_ret2;exact⟨by rw[HV.out];rfl,m,J⟩
def oh(l:List UInt8):ag:=az #[I ah (bW l),aH (cz l)]
theorem ZY{l:List UInt8}(h:20<l.length\/l.all eD=false):oh l=az #[I ah 0,aH false]:=by unfold oh cz bW;rw[if_pos h,if_pos h];rfl
theorem tz(s:ByteArray)(F:s.size<4294967296)(w:ac):ap ae 19 #[ad s] w fun e w'=>e=aq (oh s.data.toList)/\aD w.heap.size w w':=by
 by_cases MG:20<s.size;.have HV:=aa (ZY (l:=s.data.toList) (sC (by rw[<-dy];exact MG)));go_enter func19,ntmps19;go_wp2;go_ret2;exact⟨by rw[HV.out];rfl,aS _ _⟩
 .go_enter func19,ntmps19;go_wp2;go_loopw[4,5](fun x i w'=>∃(k:Nat)(al:Int),k<=s.size/\i=I R k/\x=I ah al/\0<=al/\w'=w/\Hid (al=(js 0 (s.data.toList.take k)%18446744073709551616:Nat))/\Hid ((s.data.toList.take k).all eD=true))(fun _ i _=>s.size-(intOf i).toNat);case atStart=>exact⟨0,0,by omega,J,J,by omega,J,aa J,aa J⟩
  case round=>
   obtain⟨k,al,z,rfl,rfl,hy,rfl,HY,HA⟩:=hrel;by_cases am:k<s.size
   .have nh:=cd s k am;have uj:=ea s k;have S:=aa (Mk s k am);by_cases sO:48<=an s k/\an s k<=57
    .have tD:=aa (show(s.data.toList.take (k+1)).all eD=true by rw[S.out,AO,HA.out];simp[CR _ uj,sO.1,sO.2]);have uY:=aa (show ah.wrap (ah.wrap (al*10)+((an s k:Int)-48))=(js 0 (s.data.toList.take (k+1))%18446744073709551616:Nat)by rw[S.out,Mh,mT,jg uj,jQ,jQ,HY.out];omega);go_wp2;go_round;case rel=>exact⟨k+1,_,by omega,by go_num,J,by rw[uY.out];omega,trivial,uY,tD⟩
     case measure=>simp[intOf];omega
    .have HV:=aa (ZY (l:=s.data.toList) (pa (Wl _ (k+1) (by rw[S.out,AO,HA.out];simp only[CU,TP,CR _ uj,Bool.and_true,xe];rw[FG];simp;omega))));go_wp2;all_goals go_ret2;exact⟨by rw[HV.out];rfl,aS _ _⟩
   .obtain rfl:k=s.size:=by omega
    have lA:s.data.toList.take s.size=s.data.toList:=li (by rw[<-dy];omega);rw[lA]at HY HA;have OD:¬(20<s.data.toList.length\/s.data.toList.all eD=false):=by
     rw[<-dy,HA.out];rintro(h|h);.exact MG h
     .cases h
    have vj:bW s.data.toList=js 0 s.data.toList%18446744073709551616:=by unfold bW;rw[if_neg OD]
    obtain⟨bu,hN⟩:=af (bW s.data.toList);obtain rfl:al=(bu:Int):=by rw[HY.out,<-vj,hN]
    have HNb:=aa (show bu<18446744073709551616 by rw[hN,vj];exact vD _ (by decide));have G:=fun V=>JE bu HNb.out V;obtain⟨fK,nj⟩:∃d:ByteArray,d=⟨(aQ bu).toArray⟩:=⟨_,J⟩;rw[<-nj]at G;have HV:=aa (show oh s.data.toList=az #[I ah bu,aH (fK.toList==s.toList)]by unfold oh cz;rw[if_neg OD,<-hN,tR,tR,nj]);clear nj hN vj OD lA hy HY;go_wp2_with(go_at_call 28;refine(G _).mono ?_;rintro e V⟨rfl,hV⟩);go_ret2;exact⟨by rw[HV.out];rfl,hV⟩
end Go.Proofs.YtefdakbahplnbaaGreatDoor
namespace Go.Proofs.YtefdakbahplnbaaGreatDoor.Bp
end Go.Proofs.YtefdakbahplnbaaGreatDoor.Bp
namespace Go.Proofs.YtefdakbahplnbaaGreatDoor.Mm
open Go.Proofs.YtefdakbahplnbaaGreatDoor.Bp
open Go.RowKit
def xa(r:RS):Nat->Nat|0=>0|j+1=>xa r j+if r.ew (8+j)=0 then 0 else 1
theorem aa9(r:RS):∀j,xa r j<=j|0=>aA _|j+1=>by have:=aa9 r j;rw[xa];split<;>omega
def ud(p:Nat->Option Nat)(a:Nat):Nat->Option (List Nat)|0=>U []|n+1=>(ud p a n).bind fun l=>(p (ch a n)).map fun x=>l++[x]
theorem Ys(m:MS)(a:Nat):∀n,h1 m a n=ud (ey m) a n|0=>J|n+1=>by rw[h1,ud,Ys m a n]
theorem abQ{p:Nat->Option Nat}{a i:Nat}(h:ud p a i=ab):∀n,i<=n->ud p a n=ab
 |0,u=>by rw[show i=0 by omega]at h;exact h
 |n+1,u=>by
  by_cases he:i=n+1;.rw[<-he];exact h
  .rw[ud,abQ h n (by omega)];rfl
def F9:Option (List Nat)->ag|ab=>az #[ad ⟨#[]⟩,I R 5]|U l=>az #[ad ⟨(e5 l).toArray⟩,I R 0]
theorem anH(w:ac):(convert 134 9 (ak ab 0 0)).run ae w= .ok (ad ⟨(e5 []).toArray⟩) w:=by kernel_rfl
theorem abX{w:ac}{base n:Nat}{v:ag}{l:List Nat}(cE:w.ownsRow base 5 1 v n (oZ l))(hl:∀x∈l,x<256):(convert 134 9 v).run ae w= .ok (ad ⟨(e5 l).toArray⟩) w:=by
 by_cases h0:0<n;.exact aqk cE hl h0
 .obtain rfl:n=0:=by omega
  have jM:l=[]:=by have h:=cE.1;rw[PM]at h;exact List.eq_nil_of_length_eq_zero (by omega)
  subst jM;rcases Go.Joins.ownsRow_forms cE with⟨rfl,_⟩|⟨g,cap,rfl⟩;.exact anH w
  .have h:=xh (P:=ae) w 134 9 5 ⟨g,0,ab⟩ cap [] underlying134 underlying5 underlying9 fun j hj=>by cases hj
   exact h
end Go.Proofs.YtefdakbahplnbaaGreatDoor.Mm
namespace Go.Proofs.YtefdakbahplnbaaGreatDoor.Vr
open Go.RowKit Mm Bp
attribute[local go_sem]IM Dz Am
theorem kZ.lt{g:LY}{r:RS}{W:ac}(h:kZ g r W):g.g<W.heap.size:=(Array.getElem?_eq_some_iff.1 h).1
theorem kZ.au{g:LY}{r:RS}{W V:ac}(h:kZ g r W)(hb:aD W.heap.size W V):kZ g r V:=(hb.block g.g h.lt).trans h
theorem agU(D:RB)(r:RS)(k a:Nat)(ha:a<18446744073709551616)(kX:¬(a%64=0/\8<=a/64/\a/64<=11/\r.ew (a/64)≠0)):ap ae 154 #[av (U ⟨D.g.g,D.g.o,ab⟩),I ah a] (RW D r k) fun e w'=>e=aq (I R 8)/\w'=RW D r k:=by
 obtain⟨B,N⟩:∃B:Nat,B=a/64:=⟨_,J⟩;obtain⟨t,ht⟩:∃t:Nat,t=a%64:=⟨_,J⟩;have hw:ah.wrap ((a:Int)/64)=(B:Int):=by rw[jQ,N];omega
 have hv:ah.wrap ((a:Int)%64)=(t:Int):=by rw[jQ,ht];omega
 have xv:(a:Int)%64=(t:Int):=by omega
 have c_:(a:Int)/64=(B:Int):=by omega
 rw[<-N,<-ht]at kX;have DZ:B<288230376151711744:=by omega
 clear N ht ha;by_cases q:t=0
 .by_cases h2:8<=B
  .by_cases h3:B<=11;.have c1:=we D r k B (by omega);have h4:r.ew B=0:=Classical.byContradiction fun h=>kX ⟨q,h2,h3,h⟩;rw[h4]at c1;subst q;go_enter func154,ntmps154;go_wp2;go_ret;exact⟨J,J⟩
   .have h5:(11:Int)<(B:Int):=by omega
    have h6:¬(B:Int)<8:=by omega
    subst q;clear kX;go_enter func154,ntmps154;go_wp2;go_ret;exact⟨J,J⟩
  .have h5:(B:Int)<8:=by omega
   subst q;clear kX;go_enter func154,ntmps154;go_wp2;go_ret;exact⟨J,J⟩
 .have h5:(0:Int)<(t:Int):=by omega
  clear kX;go_enter func154,ntmps154;go_wp2;go_ret;exact⟨J,J⟩
theorem akX(D:RB)(r:RS)(k B:Nat)(h8:8<=B)(Ei:B<=11)(h0:r.ew B≠0):ap ae 154 #[av (U ⟨D.g.g,D.g.o,ab⟩),I ah ((B*64:Nat):Int)] (RW D r k) fun e w'=>e=aq (I R 0)/\w'=RW D (lB r B 0) k:=by
 have c1:=we D r k B (by omega);have c2:=KR D r k B 0 (by omega);have d:((r.ew B:Int)==0)=false:=by rw[beq_eq_false_iff_ne];omega
 obtain⟨a,ha⟩:∃a:Nat,a=B*64:=⟨_,J⟩;rw[<-ha];have xv:(a:Int)%64=0:=by omega
 have c_:(a:Int)/64=(B:Int):=by omega
 have AK:a<1000:=by omega
 clear ha;go_enter func154,ntmps154;go_wp2;go_ret;exact⟨J,c2⟩
theorem aiv(D:RB)(r:RS)(k:Nat):ap ae 31 #[av (U ⟨D.g.g,D.g.o,ab⟩)] (RW D r k) fun e w'=>e=aq (I R (xa r 4))/\w'=RW D r k:=by
 go_enter func31,ntmps31;go_wp2;go_loopw[3,4](fun K bu w'=>∃n:Nat,8<=n/\n<=12/\K=I R (xa r (n-8))/\bu=I R n/\w'=RW D r k)(fun _ bu _=>12-(intOf bu).toNat);case atStart=>exact⟨8,by omega,by omega,J,J,J⟩
 case round=>
  obtain⟨n,h8,eL,rfl,rfl,rfl⟩:=hrel;have H:=aa9 r (n-8);by_cases am:n<12
  .have c1:=we D r k n am;have G:=aa (show xa r (n+1-8)=xa r (n-8)+if r.ew n=0 then 0 else 1 by rw[show n+1-8=(n-8)+1 by omega,xa,show 8+(n-8)=n by omega]);by_cases h0:r.ew n=0
   .rw[h0]at c1;rw[if_pos h0]at G;clear h0;go_wp2;go_round;case rel=>exact⟨n+1,by omega,by omega,by rw[G.out];rfl,by go_num,trivial⟩
    case measure=>simp[intOf];omega
   .have q:(0:Int)<(r.ew n:Int):=by omega
    rw[if_neg h0]at G;go_wp2;go_round;case rel=>exact⟨n+1,by omega,by omega,by rw[G.out];rfl,by go_num,trivial⟩
    case measure=>simp[intOf];omega
  .obtain rfl:n=12:=by omega
   go_wp2;go_ret;exact⟨J,J⟩
theorem Oj{g:LY}{r:RS}{W:ac}(h:kZ g r W)(a:Nat)(ha:a<18446744073709551616):ap ae 113 #[av (U ⟨g.g,g.o,ab⟩),I ah a] W fun e w'=>e=aq (vP (ol r a))/\w'=W:=by have hb:=ah0 ⟨W,g,r,h⟩ r 0 a ha;rw[<-aau h]at hb;exact hb
set_option maxRecDepth 20000 in theorem ai9{g:LY}{r:RS}{W:ac}(hM:kZ g r W)(a n:Nat)(_ha:a<18446744073709551616)(u:n<=512)(am:∀x,r.gM x<256):ap ae 157 #[av (U ⟨g.g,g.o,ab⟩),I ah a,I R n] W fun e w'=>e=aq (F9 (ud (ol r) a n))/\aD W.heap.size W w':=by
 have qJ:=aa am;have HM:=aa hM;clear _ha am hM;obtain⟨o7,gq⟩:∃x:Int,x=(a:Int):=⟨_,J⟩;rw[<-gq];have mo:=aa gq;clear gq;go_enter func157,ntmps157;go_wp2;go_loopw[8,9](fun V aL wr=>∃(i:Nat)(l:List Nat),i<=n/\aL=I R i/\Hid (wr.ownsRow W.heap.size 5 1 V i (oZ l))/\Hid (aD W.heap.size W wr)/\Hid (ud (ol r) a i=U l/\∀x∈l,x<256))(fun _ aL _=>n-(intOf aL).toNat);case atStart=>exact⟨0,[],by omega,J,aa (World.ownsRow_nil _ _ _ _),aa (aS _ _),aa ⟨J,fun x hx=>by cases hx⟩⟩
 case round=>
  obtain⟨i,l,hi,rfl,HR,S,HG⟩:=hrel;by_cases am:i<n
  .obtain⟨x,hx⟩:∃x:Int,x=((ch a i:Nat):Int):=⟨_,J⟩;have hw:ah.wrap (o7+i)=x:=by rw[jQ,mo.out,hx];unfold ch;omega
   have G:=Oj (HM.out.au S.out) (ch a i) (vD _ (by decide));rw[<-hx]at G;have cL:=aa (show ud (ol r) a (i+1)=(ol r (ch a i)).map fun x=>l++[x]by rw[ud,HG.out.1];rfl);have it:=S.out.size;clear hx;cases hp:ol r (ch a i)with
    |none=>have HV:=aa (show ud (ol r) a n=ab from abQ (by rw[cL.out,hp];rfl) n (show i+1<=n by omega));rw[hp]at G;simp only[vP]at G;go_wp2_with(go_at_call 113;refine G.mono ?_;rintro e w'⟨rfl,dK⟩;rw[dK];clear dK w');go_ret2;exact⟨by rw[HV.out];rfl,S.out⟩
    |some al=>
     have hy:al<256:=by
      unfold ol at hp;split at hp;.rw[<-dG hp];exact qJ.out _
      .cases hp
     rw[hp]at G cL;simp only[vP]at G;go_wp2_with(first|(go_at_call 113;refine G.mono ?_;rintro e w'⟨rfl,dK⟩;rw[dK];clear dK w')|(at_builtin;(refine Z_ J _ _ J W.heap.size u8 i l ?_ ?_ wr.heap.size 1 [al] ?_ ?_ ?_ ?_ ?_ ?_ ?_ ?_ ?_);(.rfl);(.exact HR.out.alloc _);(.exact#[I aM (al:Int)]);(.rfl);(.exact a7 _ _);(.rfl);(.rfl);(.omega);(.omega);(.simp;omega);intro v2 w2 dA hg2));have df:=aa ((S.out.alloc it _).grown hg2 (by simp;omega) fun k z=>(HR.out.lt k z).1);have eC:=aa dA;have HN:=aa (And.intro cL.out (show∀x∈l++[al],x<256 from fun x hx=>by
      rcases jC.1 hx with h|h;.exact HG.out.2 x h
      .rw[jB.1 h];exact hy));clear hg2 dA;go_round;case rel=>exact⟨i+1,l++[al],by omega,by go_num,eC,df,HN⟩
     case measure=>simp[intOf];omega
  .obtain rfl:i=n:=by omega
   have j0:=abX HR.out HG.out.2;go_wp2;go_ret2;exact⟨by rw[HG.out.1];rfl,S.out⟩
end Go.Proofs.YtefdakbahplnbaaGreatDoor.Vr
namespace Go.Proofs.YtefdakbahplnbaaGreatDoor.Bp
end Go.Proofs.YtefdakbahplnbaaGreatDoor.Bp
namespace Go.Proofs.YtefdakbahplnbaaGreatDoor.Mm
open Go.Proofs.YtefdakbahplnbaaGreatDoor.Bp
open Go.RowKit
def Lh(r:Nat×List Nat):ag:=az #[ad ⟨(e5 r.2).toArray⟩,I R r.1]
end Go.Proofs.YtefdakbahplnbaaGreatDoor.Mm
namespace Go.Proofs.YtefdakbahplnbaaGreatDoor.Vr
open Go.RowKit Mm Bp
set_option maxRecDepth 20000 in theorem aoG{g:LY}{r:RS}{W:ac}(hM:kZ g r W)(a:Nat)(_ha:a<18446744073709551616)(am:∀x,r.gM x<256):ap ae 156 #[av (U ⟨g.g,g.o,ab⟩),I ah a] W fun e w'=>e=aq (Lh (aqq (ol r) a 41 0 []))/\aD W.heap.size W w':=by
 have qJ:=aa am;have HM:=aa hM;clear _ha am hM;obtain⟨o7,gq⟩:∃x:Int,x=(a:Int):=⟨_,J⟩;rw[<-gq];have mo:=aa gq;clear gq;obtain⟨bd,hR⟩:=af (aqq (ol r) a 41 0 []);rw[<-hR];replace hR:=aa hR;go_enter func156,ntmps156;go_wp2;go_loopw[6,7](fun V aL wr=>∃(i:Nat)(l:List Nat),i<=40/\aL=I R i/\Hid (wr.ownsRow W.heap.size 5 1 V i (oZ l))/\Hid (aD W.heap.size W wr)/\Hid (aqq (ol r) a (41-i) i l=bd/\∀x∈l,x<256))(fun _ aL _=>41-(intOf aL).toNat);case atStart=>exact⟨0,[],by omega,J,aa (World.ownsRow_nil _ _ _ _),aa (aS _ _),aa ⟨hR.out.symm,fun x hx=>by cases hx⟩⟩
 case round=>
  obtain⟨i,l,hi,rfl,HR,S,HG⟩:=hrel;obtain⟨x,hx⟩:∃x:Int,x=((ch a i:Nat):Int):=⟨_,J⟩;have hw:ah.wrap (o7+i)=x:=by rw[jQ,mo.out,hx];unfold ch;omega
  have G:=Oj (HM.out.au S.out) (ch a i) (vD _ (by decide));rw[<-hx]at G;clear hx;have it:=S.out.size;have hG:=HG.out;rw[show 41-i=(41-(i+1))+1 by omega,aqq]at hG;cases hp:ol r (ch a i)with
   |none=>rw[hp]at G hG;simp only[vP]at G hG;replace hG:=aa hG;go_wp2_with(go_at_call 113;refine G.mono ?_;rintro e w'⟨rfl,dK⟩;rw[dK];clear dK w');go_ret2;exact⟨by rw[<-hG.out.1];rfl,S.out⟩
   |some al=>
    have hy:al<256:=by
     unfold ol at hp;split at hp;.rw[<-dG hp];exact qJ.out _
     .cases hp
    rw[hp]at G hG;simp only[vP]at G hG;by_cases h0:al=0;.subst h0;rw[if_pos J]at hG;have j0:=abX HR.out hG.2;replace hG:=aa hG;clear HG hp;go_wp2_with(go_at_call 113;refine G.mono ?_;rintro e w'⟨rfl,dK⟩;rw[dK];clear dK w');go_ret2;exact⟨by rw[<-hG.out.1];rfl,S.out⟩
    .rw[if_neg h0]at hG;have d0:((al:Int)==0)=false:=by rw[beq_eq_false_iff_ne];omega
     by_cases nB:i=40
     .have HN:=aa (show bd=(6,[])by have h:=hG.1;rw[show 41-(i+1)=0 by omega,aqq]at h;exact h.symm);have d40:((i:Int)==40)=true:=by rw[beq_iff_eq];omega
      clear hG HG hp h0 nB;go_wp2_with(go_at_call 113;refine G.mono ?_;rintro e w'⟨rfl,dK⟩;rw[dK];clear dK w');go_ret2;exact⟨by rw[HN.out];rfl,S.out⟩
     .have d40:((i:Int)==40)=false:=by rw[beq_eq_false_iff_ne];omega
      have HN:=aa (And.intro hG.1 (show∀x∈l++[al],x<256 from fun x hx=>by
       rcases jC.1 hx with h|h;.exact hG.2 x h
       .rw[jB.1 h];exact hy));clear hG HG hp h0;go_wp2_with(first|(go_at_call 113;refine G.mono ?_;rintro e w'⟨rfl,dK⟩;rw[dK];clear dK w')|(at_builtin;(refine Z_ J _ _ J W.heap.size u6 i l ?_ ?_ wr.heap.size 1 [al] ?_ ?_ ?_ ?_ ?_ ?_ ?_ ?_ ?_);(.rfl);(.exact HR.out.alloc _);(.exact#[I aM (al:Int)]);(.rfl);(.exact a7 _ _);(.rfl);(.rfl);(.omega);(.omega);(.simp;omega);intro v2 w2 dA hg2));have df:=aa ((S.out.alloc it _).grown hg2 (by simp;omega) fun k z=>(HR.out.lt k z).1);have eC:=aa dA;clear hg2 dA;go_round;case rel=>exact⟨i+1,l++[al],by omega,by go_num,eC,df,HN⟩
      case measure=>simp[intOf];omega
end Go.Proofs.YtefdakbahplnbaaGreatDoor.Vr
