/- policy.Check: conds. -/
import Derived.Test.YtefdakbahplnbaaGreatDoorK8
import Derived.Test.YtefdakbahplnbaaGreatDoorK12
import Derived.Test.YtefdakbahplnbaaGreatDoorK9
open Go.Proofs.Tryz
open Go renaming Calls->ap,Regrown->eh,Value->ag,World->ac,below_regrown->cN,block_lt_of_cell->oA,cell_regrown->aJ,wpQuiet_nil->e6,wp_region_quiet_below->fI
open Go.Calls renaming regrown_of->fU
open Go.Ending renaming returned->aq
open Go.IntKind renaming i64->R,u32->aj,u64->ah
open Go.Lib renaming decDigits->aQ
open Go.Proofs.Tryz renaming prog->ae
open Go.Value renaming agg->aw,bool->aH,iface->b8,int->I,slice->ak,string->ad
open Go.World renaming cell?_alloc_new->AT,size_alloc->bA
open List renaming getElem?_eq_getElem->cq,map_append->mU,take_append_drop->AR,take_of_length_le->li
open Nat renaming le_refl->aA
open Option renaming none->ab,some->U
namespace Go.Proofs.YtefdakbahplnbaaGreatDoor
open Go.RowKit Go.Sort
theorem qZ(w:ac)(x al:Array ag)(tx ty:TypeId):∃V,V=(w.alloc (.cells x tx)).alloc (.cells al ty)/\Below w.heap.size w V/\(∀j:Nat,V.cell? ⟨w.heap.size,j,ab⟩=x[j]?)/\(∀j:Nat,V.cell? ⟨w.heap.size+1,j,ab⟩=al[j]?):=by
 refine⟨_,J,ax (ai w _) (ai _ _),fun j=>?_,fun j=>?_⟩;.rw[((kL (ai (w.alloc (.cells x tx)) (.cells al ty))).1 w.heap.size j (by rw[bA];omega)),AT]
 .have h:=AT (w.alloc (.cells x tx)) al ty j;rwa[bA]at h
theorem aof(p:ByteArray)(h:24<p.size)(w:ac):ap ae 175 #[ad p] w fun e w'=>e=aq (.tuple #[ak ab 0 0,b8 43 (I R 2)])/\Below w.heap.size w w':=by go_enter func175,ntmps175;go_wp2;go_ret2;exact⟨J,Below.refl _ _⟩
theorem aob(p:ByteArray)(w:ac):ap ae 133 #[ad p] w fun e w'=>e=aq (cj (nA p))/\Below w.heap.size w w':=by
 by_cases h:24<p.size;.have HE:=aa (show cj (nA p)=b8 43 (I R 2)by unfold nA Gl.aqp;rw[if_pos h];rfl);go_enter func133,ntmps133;go_wp2_with(go_at_call 175;refine(aof p h _).mono ?_;rintro e W⟨rfl,hW⟩);go_ret;exact⟨by rw[HE.out];rfl,hW⟩
 .refine(Gl.ajH p (by omega) w).mono ?_;rintro e w'⟨rfl,hb⟩;refine⟨?_,hb⟩;unfold nA cj;cases hp:Gl.aqp p with
   |inr Z=>rfl
   |inl n=>
    have u:n≠0:=by
     unfold Gl.aqp at hp;repeat' split at hp
     all_goals simp at hp
     all_goals omega
    simp only;rw[if_neg u]
theorem amG(c:CD)(G7:Array ag)(w:ac)(h:c.a6<0\/3<c.a6\/c.op<1\/9<c.op):ap ae 93 #[e9 c,aw G7] w fun e w'=>e=aq (cj 1)/\Below w.heap.size w w':=by obtain⟨a6,op,v,m,g,⟨ip,b,lo,hi⟩⟩:=c;unfold e9;simp only at h⊢;go_enter func93,ntmps93;go_wp2;all_goals first|omega|(go_ret;exact⟨J,ax (ai _ _) (ai _ _)⟩)
theorem Ib(nr a:Nat)(h:a<=3):(#[I R (a1 nr 0:Nat),I R (a1 nr 1:Nat),I R (a1 nr 2:Nat),I R (a1 nr 3:Nat)]:Array ag)[a]?=U (I R (a1 nr a:Nat)):=by rcases(by omega:a=0\/a=1\/a=2\/a=3)with rfl|rfl|rfl|rfl<;>rfl
set_option maxHeartbeats 4000000 in theorem akQ(nr a:Nat)(ha:a<=3)(op:Int)(v m:Nat)(g:ByteArray)(ip:Nat)(b lo hi:Int)(q:¬op<1)(h9:¬9<op)(w:ac)(h:a1 nr a≠fA op):ap ae 93 #[e9 ⟨a,op,v,m,g,⟨ip,b,lo,hi⟩⟩,n5 nr] w fun e w'=>e=aq (cj 3)/\Below w.heap.size w w':=by
 have HU:=fun w=>Iu ⟨a,op,v,m,g,⟨ip,b,lo,hi⟩⟩ w;obtain⟨ay,hu⟩:=af (decide (bO ⟨a,op,v,m,g,⟨ip,b,lo,hi⟩⟩));rw[<-hu]at HU;obtain⟨ko,iO⟩:∃k:Int,k=(fA op:Nat):=⟨_,J⟩;have HK:=fun w=>vm op w;rw[<-iO]at HK;obtain⟨ka,el⟩:∃k:Int,k=(a1 nr a:Nat):=⟨_,J⟩;have bE:=Ib nr a ha;rw[<-el]at bE;have bo:(ka !=ko)=true:=by rw[el,iO,bne_iff_ne];omega
 clear hu iO el h;unfold n5 e9 at*;simp only at*;have i1:¬(a:Int)<0:=by omega
 have i2:¬(4:Int)<=a:=by omega
 have i3:(0:Int)<=a:=by omega
 have i4:(a:Int)<4:=by omega
 go_enter func93,ntmps93;go_wp2;obtain⟨V,hV,hB,hx,hy⟩:=qZ w #[I R a,I R op,I ah v,I ah m,ad g,I aj ip,I R b,I R lo,I R hi] #[I R (a1 nr 0:Nat),I R (a1 nr 1:Nat),I R (a1 nr 2:Nat),I R (a1 nr 3:Nat)] 129 185;rw[<-hV];clear hV;have S:=aa hB;clear hB;have g0:=aJ (hx 0);have g1:=aJ (hx 1);have g2:=aJ (hx 2);have g3:=aJ (hx 3);have g4:=aJ (hx 4);have oK:=aJ (hx 5);have oP:=aJ (hx 6);have kU:=aJ (hx 7);have n7:=aJ (hx 8);have Lx:=aJ ((hy a).trans bE);have rB:∀d os,ap ae 131 #[I R op] (grow (redrawn V d) os) fun e bF=>e=aq (I R ko)/\∃p:eh,bF=grow (redrawn V p.d) p.os:=fun d os=>yf (HK _);have yM:∀d os,ap ae 132 #[aw #[I R a,I R op,I ah v,I ah m,ad g,I aj ip,I R b,I R lo,I R hi]] (grow (redrawn V d) os) fun e bF=>e=aq (aH ay)/\∃p:eh,bF=grow (redrawn V p.d) p.os:=fun d os=>fU (HU _);clear hx hy bE HU HK;refine fI (by kernel_rfl) (by kernel_rfl) ?_;repeat(go_big_quiet_step(first|(go_at_call 131;exact rB _ _)|(go_at_call 132;exact yM _ _)))
 refine e6 ?_;intro _ bT;obtain⟨⟨dq,bJ⟩,bY⟩:=bT;subst bY;go_wp2;go_ret;exact⟨J,S.out.trans ((cN V dq bJ).mono S.out.size)⟩
set_option maxHeartbeats 4000000 in theorem afb(nr a:Nat)(ha:a<=3)(op:Int)(v m:Nat)(g:ByteArray)(ip:Nat)(b lo hi:Int)(q:¬op<1)(h9:¬9<op)(w:ac)(z:a1 nr a=fA op)(h:bO ⟨a,op,v,m,g,⟨ip,b,lo,hi⟩⟩):ap ae 93 #[e9 ⟨a,op,v,m,g,⟨ip,b,lo,hi⟩⟩,n5 nr] w fun e w'=>e=aq (cj 3)/\Below w.heap.size w w':=by
 have HU:=fun w=>Iu ⟨a,op,v,m,g,⟨ip,b,lo,hi⟩⟩ w;obtain⟨ay,hu⟩:=af (decide (bO ⟨a,op,v,m,g,⟨ip,b,lo,hi⟩⟩));rw[<-hu]at HU;obtain⟨ko,iO⟩:∃k:Int,k=(fA op:Nat):=⟨_,J⟩;have HK:=fun w=>vm op w;rw[<-iO]at HK;obtain⟨ka,el⟩:∃k:Int,k=(a1 nr a:Nat):=⟨_,J⟩;have bE:=Ib nr a ha;rw[<-el]at bE;have bo:ko=ka:=by rw[el,iO,z]
 subst bo;have Bw:ay=true:=by rw[hu];exact decide_eq_true h
 subst Bw;clear hu iO el h z;have qk:(ko !=ko)=false:=by simp
 unfold n5 e9 at*;simp only at*;have i1:¬(a:Int)<0:=by omega
 have i2:¬(4:Int)<=a:=by omega
 have i3:(0:Int)<=a:=by omega
 have i4:(a:Int)<4:=by omega
 go_enter func93,ntmps93;go_wp2;obtain⟨V,hV,hB,hx,hy⟩:=qZ w #[I R a,I R op,I ah v,I ah m,ad g,I aj ip,I R b,I R lo,I R hi] #[I R (a1 nr 0:Nat),I R (a1 nr 1:Nat),I R (a1 nr 2:Nat),I R (a1 nr 3:Nat)] 129 185;rw[<-hV];clear hV;have S:=aa hB;clear hB;have g0:=aJ (hx 0);have g1:=aJ (hx 1);have g2:=aJ (hx 2);have g3:=aJ (hx 3);have g4:=aJ (hx 4);have oK:=aJ (hx 5);have oP:=aJ (hx 6);have kU:=aJ (hx 7);have n7:=aJ (hx 8);have Lx:=aJ ((hy a).trans bE);have rB:∀d os,ap ae 131 #[I R op] (grow (redrawn V d) os) fun e bF=>e=aq (I R ko)/\∃p:eh,bF=grow (redrawn V p.d) p.os:=fun d os=>yf (HK _);have yM:∀d os,ap ae 132 #[aw #[I R a,I R op,I ah v,I ah m,ad g,I aj ip,I R b,I R lo,I R hi]] (grow (redrawn V d) os) fun e bF=>e=aq (aH true)/\∃p:eh,bF=grow (redrawn V p.d) p.os:=fun d os=>fU (HU _);clear hx hy bE HU HK;refine fI (by kernel_rfl) (by kernel_rfl) ?_;repeat(go_big_quiet_step(first|(go_at_call 131;exact rB _ _)|(go_at_call 132;exact yM _ _)))
 refine e6 ?_;intro _ bT;obtain⟨⟨dq,bJ⟩,bY⟩:=bT;subst bY;go_wp2;go_ret;exact⟨J,S.out.trans ((cN V dq bJ).mono S.out.size)⟩
set_option maxHeartbeats 4000000 in theorem alA(nr a:Nat)(ha:a<=3)(v m:Nat)(g:ByteArray)(ip:Nat)(b lo hi:Int)(_hc:jJ ⟨a,8,v,m,g,⟨ip,b,lo,hi⟩⟩)(w:ac)(z:a1 nr a=fA 8)(h:¬bO ⟨a,8,v,m,g,⟨ip,b,lo,hi⟩⟩):ap ae 93 #[e9 ⟨a,8,v,m,g,⟨ip,b,lo,hi⟩⟩,n5 nr] w fun e w'=>e=aq (cj (nA g))/\Below w.heap.size w w':=by
 have HU:=fun w=>Iu ⟨a,8,v,m,g,⟨ip,b,lo,hi⟩⟩ w;obtain⟨ay,hu⟩:=af (decide (bO ⟨a,8,v,m,g,⟨ip,b,lo,hi⟩⟩));rw[<-hu]at HU;obtain⟨ko,iO⟩:∃k:Int,k=(fA 8:Nat):=⟨_,J⟩;have HK:=fun w=>vm 8 w;rw[<-iO]at HK;obtain⟨ka,el⟩:∃k:Int,k=(a1 nr a:Nat):=⟨_,J⟩;have bE:=Ib nr a ha;rw[<-el]at bE;have bo:ko=ka:=by rw[el,iO,z]
 subst bo;have Bw:ay=false:=by rw[hu];exact decide_eq_false h
 subst Bw;clear hu iO el h z;have qk:(ko !=ko)=false:=by simp
 unfold n5 e9 at*;simp only at*;have i1:¬(a:Int)<0:=by omega
 have i2:¬(4:Int)<=a:=by omega
 have i3:(0:Int)<=a:=by omega
 have i4:(a:Int)<4:=by omega
 go_enter func93,ntmps93;go_wp2;obtain⟨V,hV,hB,hx,hy⟩:=qZ w #[I R a,I R 8,I ah v,I ah m,ad g,I aj ip,I R b,I R lo,I R hi] #[I R (a1 nr 0:Nat),I R (a1 nr 1:Nat),I R (a1 nr 2:Nat),I R (a1 nr 3:Nat)] 129 185;rw[<-hV];clear hV;have S:=aa hB;clear hB;have g0:=aJ (hx 0);have g1:=aJ (hx 1);have g2:=aJ (hx 2);have g3:=aJ (hx 3);have g4:=aJ (hx 4);have oK:=aJ (hx 5);have oP:=aJ (hx 6);have kU:=aJ (hx 7);have n7:=aJ (hx 8);have Lx:=aJ ((hy a).trans bE);have rB:∀d os,ap ae 131 #[I R 8] (grow (redrawn V d) os) fun e bF=>e=aq (I R ko)/\∃p:eh,bF=grow (redrawn V p.d) p.os:=fun d os=>yf (HK _);have yM:∀d os,ap ae 132 #[aw #[I R a,I R 8,I ah v,I ah m,ad g,I aj ip,I R b,I R lo,I R hi]] (grow (redrawn V d) os) fun e bF=>e=aq (aH false)/\∃p:eh,bF=grow (redrawn V p.d) p.os:=fun d os=>fU (HU _);clear hx hy bE HU HK;refine fI (by kernel_rfl) (by kernel_rfl) ?_;repeat(go_big_quiet_step(first|(go_at_call 131;exact rB _ _)|(go_at_call 132;exact yM _ _)))
 refine e6 ?_;intro _ bT;obtain⟨⟨dq,bJ⟩,bY⟩:=bT;subst bY;have HE:=aob g;go_wp2_with(go_at_call 133;refine(HE _).mono ?_;rintro e W2⟨rfl,dB⟩);go_ret;exact⟨J,ax (S.out.trans ((cN V dq bJ).mono S.out.size)) dB⟩
set_option maxHeartbeats 4000000 in theorem ajt(nr a:Nat)(ha:a<=3)(v m:Nat)(g:ByteArray)(ip:Nat)(b lo hi:Int)(H:jJ ⟨a,9,v,m,g,⟨ip,b,lo,hi⟩⟩)(w:ac)(z:a1 nr a=fA 9)(h:¬bO ⟨a,9,v,m,g,⟨ip,b,lo,hi⟩⟩):ap ae 93 #[e9 ⟨a,9,v,m,g,⟨ip,b,lo,hi⟩⟩,n5 nr] w fun e w'=>e=aq (cj (cf ip b lo hi))/\Below w.heap.size w w':=by
 have HU:=fun w=>Iu ⟨a,9,v,m,g,⟨ip,b,lo,hi⟩⟩ w;obtain⟨ay,hu⟩:=af (decide (bO ⟨a,9,v,m,g,⟨ip,b,lo,hi⟩⟩));rw[<-hu]at HU;obtain⟨ko,iO⟩:∃k:Int,k=(fA 9:Nat):=⟨_,J⟩;have HK:=fun w=>vm 9 w;rw[<-iO]at HK;obtain⟨ka,el⟩:∃k:Int,k=(a1 nr a:Nat):=⟨_,J⟩;have bE:=Ib nr a ha;rw[<-el]at bE;have bo:ko=ka:=by rw[el,iO,z]
 subst bo;have Bw:ay=false:=by rw[hu];exact decide_eq_false h
 subst Bw;clear hu iO el h z;have qk:(ko !=ko)=false:=by simp
 unfold n5 e9 at*;simp only at*;have i1:¬(a:Int)<0:=by omega
 have i2:¬(4:Int)<=a:=by omega
 have i3:(0:Int)<=a:=by omega
 have i4:(a:Int)<4:=by omega
 go_enter func93,ntmps93;go_wp2;obtain⟨V,hV,hB,hx,hy⟩:=qZ w #[I R a,I R 9,I ah v,I ah m,ad g,I aj ip,I R b,I R lo,I R hi] #[I R (a1 nr 0:Nat),I R (a1 nr 1:Nat),I R (a1 nr 2:Nat),I R (a1 nr 3:Nat)] 129 185;rw[<-hV];clear hV;have S:=aa hB;clear hB;have g0:=aJ (hx 0);have g1:=aJ (hx 1);have g2:=aJ (hx 2);have g3:=aJ (hx 3);have g4:=aJ (hx 4);have oK:=aJ (hx 5);have oP:=aJ (hx 6);have kU:=aJ (hx 7);have n7:=aJ (hx 8);have Lx:=aJ ((hy a).trans bE);have rB:∀d os,ap ae 131 #[I R 9] (grow (redrawn V d) os) fun e bF=>e=aq (I R ko)/\∃p:eh,bF=grow (redrawn V p.d) p.os:=fun d os=>yf (HK _);have yM:∀d os,ap ae 132 #[aw #[I R a,I R 9,I ah v,I ah m,ad g,I aj ip,I R b,I R lo,I R hi]] (grow (redrawn V d) os) fun e bF=>e=aq (aH false)/\∃p:eh,bF=grow (redrawn V p.d) p.os:=fun d os=>fU (HU _);clear hx hy bE HU HK;refine fI (by kernel_rfl) (by kernel_rfl) ?_;repeat(go_big_quiet_step(first|(go_at_call 131;exact rB _ _)|(go_at_call 132;exact yM _ _)))
 refine e6 ?_;intro _ bT;obtain⟨⟨dq,bJ⟩,bY⟩:=bT;subst bY;have HE:=xI ip H.dr.ip b lo hi H.dr.bits H.dr.lo H.dr.hi;go_wp2_with(go_at_call 134;refine(HE _).mono ?_;rintro e W2⟨rfl,dB⟩);go_ret;exact⟨J,ax (S.out.trans ((cN V dq bJ).mono S.out.size)) dB⟩
set_option maxHeartbeats 4000000 in theorem akK(nr a:Nat)(ha:a<=3)(op:Int)(v m:Nat)(g:ByteArray)(ip:Nat)(b lo hi:Int)(q:¬op<1)(h9:¬9<op)(_hc:jJ ⟨a,op,v,m,g,⟨ip,b,lo,hi⟩⟩)(h8:¬op=8)(h9n:¬op=9)(w:ac)(z:a1 nr a=fA op)(h:¬bO ⟨a,op,v,m,g,⟨ip,b,lo,hi⟩⟩):ap ae 93 #[e9 ⟨a,op,v,m,g,⟨ip,b,lo,hi⟩⟩,n5 nr] w fun e w'=>e=aq (cj 0)/\Below w.heap.size w w':=by
 have HU:=fun w=>Iu ⟨a,op,v,m,g,⟨ip,b,lo,hi⟩⟩ w;obtain⟨ay,hu⟩:=af (decide (bO ⟨a,op,v,m,g,⟨ip,b,lo,hi⟩⟩));rw[<-hu]at HU;obtain⟨ko,iO⟩:∃k:Int,k=(fA op:Nat):=⟨_,J⟩;have HK:=fun w=>vm op w;rw[<-iO]at HK;obtain⟨ka,el⟩:∃k:Int,k=(a1 nr a:Nat):=⟨_,J⟩;have bE:=Ib nr a ha;rw[<-el]at bE;have bo:ko=ka:=by rw[el,iO,z]
 subst bo;have Bw:ay=false:=by rw[hu];exact decide_eq_false h
 subst Bw;clear hu iO el h z;have qk:(ko !=ko)=false:=by simp
 unfold n5 e9 at*;simp only at*;have i1:¬(a:Int)<0:=by omega
 have i2:¬(4:Int)<=a:=by omega
 have i3:(0:Int)<=a:=by omega
 have i4:(a:Int)<4:=by omega
 go_enter func93,ntmps93;go_wp2;obtain⟨V,hV,hB,hx,hy⟩:=qZ w #[I R a,I R op,I ah v,I ah m,ad g,I aj ip,I R b,I R lo,I R hi] #[I R (a1 nr 0:Nat),I R (a1 nr 1:Nat),I R (a1 nr 2:Nat),I R (a1 nr 3:Nat)] 129 185;rw[<-hV];clear hV;have S:=aa hB;clear hB;have g0:=aJ (hx 0);have g1:=aJ (hx 1);have g2:=aJ (hx 2);have g3:=aJ (hx 3);have g4:=aJ (hx 4);have oK:=aJ (hx 5);have oP:=aJ (hx 6);have kU:=aJ (hx 7);have n7:=aJ (hx 8);have Lx:=aJ ((hy a).trans bE);have rB:∀d os,ap ae 131 #[I R op] (grow (redrawn V d) os) fun e bF=>e=aq (I R ko)/\∃p:eh,bF=grow (redrawn V p.d) p.os:=fun d os=>yf (HK _);have yM:∀d os,ap ae 132 #[aw #[I R a,I R op,I ah v,I ah m,ad g,I aj ip,I R b,I R lo,I R hi]] (grow (redrawn V d) os) fun e bF=>e=aq (aH false)/\∃p:eh,bF=grow (redrawn V p.d) p.os:=fun d os=>fU (HU _);clear hx hy bE HU HK;refine fI (by kernel_rfl) (by kernel_rfl) ?_;repeat(go_big_quiet_step(first|(go_at_call 131;exact rB _ _)|(go_at_call 132;exact yM _ _)))
 refine e6 ?_;intro _ bT;obtain⟨⟨dq,bJ⟩,bY⟩:=bT;subst bY;clear _hc;go_wp2;go_ret;exact⟨J,S.out.trans ((cN V dq bJ).mono S.out.size)⟩
theorem ajF(nr:Nat)(c:CD)(H:jJ c)(w:ac):ap ae 93 #[e9 c,n5 nr] w fun e w'=>e=aq (cj (hK nr c))/\Below w.heap.size w w':=by
 by_cases h:c.a6<0\/3<c.a6\/c.op<1\/9<c.op;.rw[show hK nr c=1 from if_pos h];exact amG c _ w h
 have M:hK nr c=if a1 nr c.a6.toNat≠fA c.op\/bO c then 3 else if c.op=8 then nA c.ny else if c.op=9 then RM c.dr else 0:=if_neg h;obtain⟨a6,op,v,m,g,⟨ip,b,lo,hi⟩⟩:=c;simp only[not_or]at h M;obtain⟨a,rfl⟩:∃a:Nat,a6=a:=⟨a6.toNat,by omega⟩;have ha:a<=3:=by omega
 rw[Int.toNat_natCast]at M;by_cases z:a1 nr a=fA op
 .by_cases hu:bO ⟨a,op,v,m,g,⟨ip,b,lo,hi⟩⟩;.rw[M,if_pos (.inr hu)];exact afb nr a ha op v m g ip b lo hi h.2.2.1 h.2.2.2 w z hu
  .rw[if_neg (by rw[not_or];exact⟨fun H=>H z,hu⟩)]at M;by_cases h8:op=8;.rw[M,if_pos h8];subst h8;exact alA nr a ha v m g ip b lo hi H w z hu
   .by_cases h9:op=9;.rw[M,if_neg h8,if_pos h9];subst h9;exact ajt nr a ha v m g ip b lo hi H w z hu
    .rw[M,if_neg h8,if_neg h9];exact akK nr a ha op v m g ip b lo hi h.2.2.1 h.2.2.2 H h8 h9 w z hu
 .rw[M,if_pos (.inl z)];exact akQ nr a ha op v m g ip b lo hi h.2.2.1 h.2.2.2 w z
theorem eN(w:ac)(x:Array ag)(tx:TypeId):∃V,V=w.alloc (.cells x tx)/\Below w.heap.size w V/\w.heap.size<V.heap.size/\(∀j:Nat,V.cell? ⟨w.heap.size,j,ab⟩=x[j]?):=⟨_,J,ai w _,by rw[bA];omega,fun j=>AT w x tx j⟩
theorem ao{X Y:ac}{b o:Nat}{v:ag}(hb:Below X.heap.size X Y)(h:X.cell? ⟨b,o,ab⟩=U v):Y.cell? ⟨b,o,ab⟩=U v:=((kL hb).1 b o (oA h)).trans h
theorem Wt{bd:ac->Prop}{W0:ac}(d5:ac->Prop)(h:d5 W0)(ge:∀W,d5 W->bd W):bd W0:=ge _ h
structure KX(V:ac)(k kb:Nat)(X:ac):Prop where
 below:Below V.heap.size V X
 Li:∀j,j<4->X.cell? ⟨kb,j,ab⟩=U (I R (a1 k j:Nat))
theorem uD{α:Type}{cs:List α}{i:Nat}(h:i<cs.length):∃c,cs[i]?=U c/\cs.take (i+1)=cs.take i++[c]:=⟨cs[i],cq h,by rw[List.take_add_one,cq h];rfl⟩
theorem yr:∀a b:List Nat,e_ (a++b)=if e_ a=0 then e_ b else e_ a
 |[],b=>by simp[e_]
 |x::r,b=>by
  rw[List.cons_append,e_,e_];by_cases h:x=0;.rw[if_pos h,if_pos h,yr r b]
  .rw[if_neg h,if_neg h,if_neg h]
theorem KE(x:Nat):e_ [x]=x:=by
 by_cases h:x=0;.simp[e_,h]
 .simp[e_];omega
theorem Ze{j:Nat}(h:j<4):j=0\/j=1\/j=2\/j=3:=by omega
theorem KX.amI{V w1:ac}{k:Nat}(hb:Below V.heap.size V w1):KX V k w1.heap.size (w1.alloc (.cells #[I R (a1 k 0:Nat),I R (a1 k 1:Nat),I R (a1 k 2:Nat),I R (a1 k 3:Nat)] 185)):=⟨hb.alloc hb.size _,fun j hj=>by rw[AT];rcases Ze hj with rfl|rfl|rfl|rfl<;>rfl⟩
theorem Kr{X:ac}{b j:Nat}{v:ag}(h:X.cell? ⟨b,j,ab⟩=U v)(i:Nat)(ay:ag):(X.setCell ⟨b,i,ab⟩ ay).cell? ⟨b,j,ab⟩=U (if i=j then ay else v):=by
 by_cases e:i=j;.subst e;rw[if_pos J];exact World.cell?_setCell_same _ _ _ h
 .rw[if_neg e,World.cell?_setCell_other _ _ _ _ (by simp_all)];exact h
theorem Wm{V w1:ac}(hb:Below V.drew.heap.size V.drew w1):Below V.heap.size V w1:=⟨hb.os,hb.tape,hb.output,hb.size,hb.block⟩
theorem agS{V w1:ac}{o:Obj}(hb:Below (V.alloc o).drew.heap.size (V.alloc o).drew w1):Below V.heap.size V w1:=ax (ai V o) (Wm hb)
theorem KX.set{V w1:ac}{k:Nat}(hb:Below V.heap.size V w1)(h:∀j,j<4->w1.cell? ⟨V.heap.size,j,ab⟩=U (I R 0)):KX V k V.heap.size ((((w1.setCell ⟨V.heap.size,0,ab⟩ (I R (a1 k 0:Nat))).setCell ⟨V.heap.size,1,ab⟩ (I R (a1 k 1:Nat))).setCell ⟨V.heap.size,2,ab⟩ (I R (a1 k 2:Nat))).setCell ⟨V.heap.size,3,ab⟩ (I R (a1 k 3:Nat))):=by
 refine⟨?_,fun j hj=>?_⟩;.exact(((hb.setCell (p:=⟨V.heap.size,0,ab⟩) (aA _) _).setCell (p:=⟨V.heap.size,1,ab⟩) (aA _) _).setCell (p:=⟨V.heap.size,2,ab⟩) (aA _) _).setCell (p:=⟨V.heap.size,3,ab⟩) (aA _) _
 .rw[Kr (Kr (Kr (Kr (h j hj) 0 _) 1 _) 2 _) 3 _];rcases Ze hj with rfl|rfl|rfl|rfl<;>rfl
set_option maxHeartbeats 4000000 in theorem aeF(r:RL)(oa:Option Addr)(cap:Nat)(w:ac)(H:jV oa r.bq w)(L:uJ r)(su:r.bq.length<=cap/\cap<=maxLen):ap ae 56 #[lW r oa cap] w fun e w'=>e=aq (cj (g_ r))/\Below w.heap.size w w':=by
 obtain⟨nr,cs,⟨aN,aP⟩⟩:=r;unfold lW;simp only at H su⊢;obtain⟨n,u⟩:=af cs.length;rw[<-u]at su⊢;have Dl:n<=9223372036854775807:=by have:=su.2;unfold maxLen at this;omega
 by_cases h0:nr<0\/8<nr;.rw[show g_ ⟨nr,cs,⟨aN,aP⟩⟩=1 from if_pos h0];go_enter func56,ntmps56;go_wp2;all_goals first|omega|(go_ret;exact⟨J,ai _ _⟩)
 have dn:g_ ⟨nr,cs,⟨aN,aP⟩⟩=if 4<cs.length then 2 else if e_ (cs.map (hK nr.toNat))=0 then dl ⟨aN,aP⟩else e_ (cs.map (hK nr.toNat)):=if_neg h0;obtain⟨k,rfl⟩:∃k:Nat,nr=k:=⟨nr.toNat,by omega⟩;have If:k<=8:=by omega
 rw[Int.toNat_natCast,<-u]at dn;have i1:¬(k:Int)<0:=by omega
 have i2:¬(9:Int)<=k:=by omega
 by_cases h4:4<n;.have HF:=aa (dn.trans (if_pos h4));clear dn u;go_enter func56,ntmps56;go_wp2;go_ret;exact⟨by rw[HF.out];rfl,ai _ _⟩
 rw[if_neg h4]at dn;have HF:=aa dn;have HN:=aa u;have G:=aa (show 0<n->∃b off,oa=U ⟨b,off,ab⟩/\b<w.heap.size/\Hid (∀i c,cs[i]?=U c->DU w b (off+i*9) c)from fun h=>by obtain⟨b,off,q1,q2,q3⟩:=H.ez (by omega);exact⟨b,off,q1,q2,aa q3⟩);have HL:=aa (show∀i,i<n->∃c,cs[i]?=U c/\cs.take (i+1)=cs.take i++[c]from fun i h=>uD (by omega));clear H L;have i3:¬(4:Int)<n:=by omega
 have gw:=V7 k If;have s9:=Sv k;unfold n5 at s9;have je:=Gi;obtain⟨FA,n_⟩:=af qX;rw[<-n_]at gw je;obtain⟨UC,zF⟩:=af (AF k);rw[<-zF]at gw s9;clear n_ zF dn u h0 su;go_enter func56,ntmps56;go_wp2;obtain⟨V,hV,hB,cP,hx⟩:=eN w #[I R k,ak oa n cap,I R aN,I R aP] 54;rw[<-hV];clear hV;have c0:=hx 0;obtain⟨aK,hZ⟩:∃aK:Obj,aK= .cells #[I R 0,I R 0,I R 0,I R 0] 185:=⟨_,J⟩;have z0:∀j:Nat,j<4->(V.alloc aK).cell? ⟨V.heap.size,j,ab⟩=U (I R 0):=fun j hj=>by rw[hZ,AT];rcases(by omega:j=0\/j=1\/j=2\/j=3)with rfl|rfl|rfl|rfl<;>rfl
 have z1:∀j:Nat,(V.alloc aK).frozen? ⟨V.heap.size,j,ab⟩=false:=fun j=>by rw[hZ];exact World.frozen?_alloc_new _ _ _ _
 rw[hZ]at z0 z1;clear hZ;go_region_with(first|(go_at_call 92;refine(je V.drew).mono ?_;rintro e w1⟨rfl,bb⟩;have c1:=ao (o:=0) (v:=I R k) (b:=w.heap.size) bb c0;have l1:w.heap.size<w1.heap.size:=oA c1;have HK:=aa (KX.amI (k:=k) (Wm bb)))|(go_at_call 92;refine(je (V.alloc _).drew).mono ?_;rintro e w1⟨rfl,bb⟩;have c1:=ao (o:=0) (v:=I R k) (b:=w.heap.size) bb (ao (ai V _) c0:(V.alloc _).cell? _=_);have l1:w.heap.size<w1.heap.size:=oA c1;have d0:=ao bb (z0 0 (by omega));have d1:=ao bb (z0 1 (by omega));have d2:=ao bb (z0 2 (by omega));have d3:=ao bb (z0 3 (by omega));have f0:=((kL bb).2 V.heap.size 0 (oA (z0 0 (by omega)))).trans (z1 0);have f1:=((kL bb).2 V.heap.size 1 (oA (z0 0 (by omega)))).trans (z1 1);have f2:=((kL bb).2 V.heap.size 2 (oA (z0 0 (by omega)))).trans (z1 2);have f3:=((kL bb).2 V.heap.size 3 (oA (z0 0 (by omega)))).trans (z1 3);have HK:=aa (KX.set (k:=k) (agS bb) (fun j hj=>ao bb (z0 j hj)))));all_goals
  refine Wt (KX V k _) HK.out ?_;clear HK;intro X hX;have k0:=ao hX.below (hx 0);have k1:=ao hX.below (hx 1);have k2:=ao hX.below (hx 2);have k3:=ao hX.below (hx 3);go_wp2;go_loopw[28](fun aL w'=>∃i:Nat,i<=n/\aL=I R i/\Hid (Below X.heap.size X w')/\Hid (e_ ((cs.take i).map (hK k))=0))(fun aL _=>n-(intOf aL).toNat);case atStart=>exact⟨0,by omega,J,aa (Below.refl _ _),aa J⟩
  case round=>
   obtain⟨i,hi,rfl,S,HG⟩:=hrel;by_cases am:i<n
   .obtain⟨c,cH,fF⟩:=HL.out i am;obtain⟨b,off,rfl,ds,HA⟩:=G.out (by omega);have hA:=(HA.out i c cH).au fun j=>(kL (ax (ax (ax hB hX.below) S.out) (Below.refl _ _))).1 b j ds;have bh:=hA.ok;obtain⟨f,M⟩:=af (hK k c);have HQ:=aa (show e_ ((cs.take (i+1)).map (hK k))=f by rw[fF,mU,yr,if_pos HG.out,M];exact KE _);have fv:=fun w=>ajF k c bh w;rw[<-M]at fv;clear M bh cH fF;have g1:=aJ (ao S.out k1);have fE:=aJ (ao S.out (hX.Li 0 (by omega)));have e1:=aJ (ao S.out (hX.Li 1 (by omega)));have e2:=aJ (ao S.out (hX.Li 2 (by omega)));have mt:=aJ (ao S.out (hX.Li 3 (by omega)));obtain⟨a0,bR,a2,a3,a4,a5,pW,qU,sA,_⟩:=hA;replace a0:=aJ a0;replace bR:=aJ bR;replace a2:=aJ a2;replace a3:=aJ a3;replace a4:=aJ a4;replace a5:=aJ a5;replace pW:=aJ pW;replace qU:=aJ qU;replace sA:=aJ sA;obtain⟨a6,op,v,m,gl,⟨ip,cV,lo,hh⟩⟩:=c;unfold e9 n5 at fv;simp only at a0 bR a2 a3 a4 a5 pW qU sA fv;obtain⟨ev,zB⟩:=af (cj f);rw[<-zB]at fv;have wv:∀d os,ap ae 93 #[aw #[I R a6,I R op,I ah v,I ah m,ad gl,I aj ip,I R cV,I R lo,I R hh],aw #[I R (a1 k 0:Nat),I R (a1 k 1:Nat),I R (a1 k 2:Nat),I R (a1 k 3:Nat)]] (grow (redrawn wr d) os) fun e bF=>e=aq ev/\∃p:eh,bF=grow (redrawn wr p.d) p.os:=fun d os=>fU (fv _);clear fv;have i5:(0:Int)<=i:=by omega
    have i6:(i:Int)<n:=by omega
    go_wp2;refine fI (by kernel_rfl) (by kernel_rfl) ?_;repeat(go_big_quiet_step(first|(go_at_call 93;exact wv _ _)))
    refine e6 ?_;intro _ bT;obtain⟨⟨dq,bJ⟩,bY⟩:=bT;subst bY;clear a0 bR a2 a3 a4 a5 pW qU sA g1 fE e1 e2 mt wv;by_cases hz:f=0
    .subst hz;obtain rfl:ev= .nilIface:=zB;go_wp2;go_round;case rel=>exact⟨i+1,by omega,by go_num,aa (ax S.out (cN wr dq bJ)),HQ⟩
     case measure=>simp[intOf];omega
    .rw[iL hz]at zB;subst zB;have HE:=aa (show g_ ⟨k,cs,⟨aN,aP⟩⟩=f by
      have q:e_ (cs.map (hK k))=f:=by rw[<-AR (i+1) cs,mU,yr,if_neg (by rw[HQ.out];exact hz),HQ.out]
      rw[HF.out,q,if_neg hz]);go_wp2;go_ret;exact⟨by rw[HE.out,iL hz];rfl,ax (ax (ax hB hX.below) S.out) (cN wr dq bJ)⟩
   .obtain rfl:i=n:=by omega
    have q2:=ao S.out k2;have q3:=ao S.out k3;have HE:=aa (show g_ ⟨k,cs,⟨aN,aP⟩⟩=dl ⟨aN,aP⟩by
     have q:e_ (cs.map (hK k))=0:=by have:=HG.out;rwa[li (by rw[HN.out];exact aA _)]at this
     rw[HF.out,if_pos q]);go_wp2_with(go_at_call 55;refine(Zm ⟨aN,aP⟩ _).mono ?_;rintro e w2⟨rfl,dB⟩);go_ret;exact⟨by rw[HE.out];rfl,ax (ax (ax hB hX.below) S.out) dB⟩
theorem zg{oa:Option Addr}{cap:Nat}{p:bj}{w:ac}(h:fc oa cap p w)(n:Nat)(u:n=p.bw.length):0<n->∃b off,oa=U ⟨b,off,ab⟩/\b<w.heap.size/\Hid (∀i r,p.bw[i]?=U r->∃dj P6,Hu w b (off+i*4) r dj P6):=fun h0=>by obtain⟨b,off,q1,q2,q3⟩:=h.bw.ez (by omega);exact⟨b,off,q1,q2,aa q3⟩
set_option maxHeartbeats 4000000 in theorem KJ(p:bj)(oa:Option Addr)(cap:Nat)(w:ac)(h:fc oa cap p w):ap ae 35 #[ep p oa cap] w fun e w'=>e=aq (cj (cM p))/\Below w.heap.size w w':=by
 obtain⟨n,u⟩:=af p.bw.length;have G:=aa (zg h n u);have Dl:n<=9223372036854775807:=by have q:=h.le;have h2:=h.cap;unfold maxLen at h2;omega
 clear h;obtain⟨rs,⟨aN,aP⟩⟩:=p;unfold ep;simp only at G u⊢;rw[<-u];have dn:cM ⟨rs,⟨aN,aP⟩⟩=if 12<n then 2 else if dl ⟨aN,aP⟩=0 then e_ (rs.map g_)else dl ⟨aN,aP⟩:=by rw[u];rfl
 by_cases h4:12<n;.have HF:=aa (dn.trans (if_pos h4));clear dn u;go_enter func35,ntmps35;go_wp2;go_ret;exact⟨by rw[HF.out];rfl,ai _ _⟩
 rw[if_neg h4]at dn;have HA:=Zm ⟨aN,aP⟩;obtain⟨f0,M⟩:=af (dl ⟨aN,aP⟩);rw[<-M]at HA dn;have HF:=aa dn;have HN:=aa u;have HL:=aa (show∀i,i<n->∃c,rs[i]?=U c/\rs.take (i+1)=rs.take i++[c]from fun i h=>uD (by omega));clear dn u M;unfold fe at HA;simp only at HA;by_cases dh:f0=0
 .subst dh;rw[if_pos J]at HF;rw[kD]at HA;go_enter func35,ntmps35;obtain⟨V,hV,hB,cP,hx⟩:=eN w #[ak oa n cap,I R aN,I R aP] 32;go_wp2_with(go_at_call 55;rw[<-hV];clear hV;refine(HA _).mono ?_;rintro e X⟨rfl,hX⟩;have k0:=ao hX (hx 0);have k1:=ao hX (hx 1);have k2:=ao hX (hx 2));go_loopw[20](fun aL w'=>∃i:Nat,i<=n/\aL=I R i/\Hid (Below X.heap.size X w')/\Hid (e_ ((rs.take i).map g_)=0))(fun aL _=>n-(intOf aL).toNat);case atStart=>exact⟨0,by omega,J,aa (Below.refl _ _),aa J⟩
  case round=>
   obtain⟨i,hi,rfl,S,HG⟩:=hrel;have HW:=aa (ax (ax hB hX) S.out);by_cases am:i<n
   .obtain⟨c,cH,fF⟩:=HL.out i am;obtain⟨b,off,rfl,ds,tD⟩:=G.out (by omega);obtain⟨dj,cc,cZ⟩:=tD.out i c cH;have hR:=cZ.au ds HW.out;clear cZ;obtain⟨f,M⟩:=af (g_ c);have HQ:=aa (show e_ ((rs.take (i+1)).map g_)=f by rw[fF,mU,yr,if_pos HG.out,M];exact KE _);have fv:=aeF c dj cc wr hR.bq hR.ok ⟨hR.le,hR.cap⟩;rw[<-M]at fv;obtain⟨a0,bR,a2,a3,_,_,_,_⟩:=hR;clear M cH fF;have g0:=ao S.out k0;obtain⟨nr,cs,⟨rk,re⟩⟩:=c;unfold lW at fv;simp only at a0 bR a2 a3 fv;by_cases hz:f=0
    .subst hz;rw[kD]at fv;go_wp2_with(go_at_call 56;refine fv.mono ?_;rintro e w1⟨rfl,bb⟩);go_round;case rel=>exact⟨i+1,by omega,by go_num,aa (ax S.out bb),HQ⟩
     case measure=>simp[intOf];omega
    .rw[iL hz]at fv;have HE:=aa (show cM ⟨rs,⟨aN,aP⟩⟩=f by
      have q:e_ (rs.map g_)=f:=by rw[<-AR (i+1) rs,mU,yr,if_neg (by rw[HQ.out];exact hz),HQ.out]
      rw[HF.out,q]);go_wp2_with(go_at_call 56;refine fv.mono ?_;rintro e w1⟨rfl,bb⟩);go_ret;exact⟨by rw[HE.out,iL hz];rfl,ax HW.out bb⟩
   .obtain rfl:i=n:=by omega
    have HE:=aa (show cM ⟨rs,⟨aN,aP⟩⟩=0 by have:=HG.out;rw[li (by rw[HN.out];exact aA _)]at this;rw[HF.out,this]);go_wp2;go_ret;exact⟨by rw[HE.out];rfl,HW.out⟩
 .rw[if_neg dh]at HF;rw[iL dh]at HA;go_enter func35,ntmps35;go_wp2_with(go_at_call 55;refine(HA _).mono ?_;rintro e X⟨rfl,hX⟩);go_ret;exact⟨by rw[HF.out,iL dh];rfl,ax (ai _ _) hX⟩
def bs(l:W8):ByteArray:=⟨l.toArray⟩
theorem ct(l:W8):(bs l).size=l.length:=by unfold bs;simp[ByteArray.size]
theorem b7(a b:W8):bs a++bs b=bs (a++b):=by apply ByteArray.ext;simp[bs,ByteArray.data_append]
theorem fy(l:W8):(bs l).data.toList=l:=by unfold bs;simp
theorem Dc(g:ByteArray):bs g.data.toList=g:=by unfold bs;simp
structure EV(w:ac):Prop where
 oR:rY w
 uk:∀i,i<9->w.cell? ⟨0,i,ab⟩=U (ad (bs (cG.getD i [])))
 QB:∃m,w.cell? ⟨1,0,ab⟩=U (I R m)
 Lg:∃ev,w.cell? ⟨5,0,ab⟩=U ev/\(ev= .nilIface\/∃te pe,ev=b8 te pe)
 GB:∃ev,w.cell? ⟨6,0,ab⟩=U ev/\(ev= .nilIface\/∃te pe,ev=b8 te pe)
theorem EV.au{w w':ac}(h:EV w)(hb:Below w.heap.size w w'):EV w':=⟨Ov h.oR hb,fun i hi=>ao hb (h.uk i hi),by obtain⟨m,hm⟩:=h.QB;exact⟨m,ao hb hm⟩,by obtain⟨m,hm,hx⟩:=h.Lg;exact⟨m,ao hb hm,hx⟩,by obtain⟨m,hm,hx⟩:=h.GB;exact⟨m,ao hb hm,hx⟩⟩
theorem ab_(a:bG)(h:dl a=0)(w:ac)(hE:EV w):ap ae 90 #[fe a] w fun e w'=>e=aq (ad (bs (cr 32 (e3 a))))/\Below w.heap.size w w':=by
 rcases vu h with rfl|rfl|⟨n,q,h2,rfl⟩;.unfold fe;go_enter func90,ntmps90;go_wp2;go_ret;exact⟨J,ai _ _⟩
 .unfold fe;go_enter func90,ntmps90;go_wp2;go_ret;exact⟨J,ai _ _⟩
 .have HI:=fun X hX=>zz n (by omega) X hX;have hl:(aQ n).length<=20:=nDigits_le20 n (by omega);obtain⟨d,hd⟩:∃d:ByteArray,d=⟨(aQ n).toArray⟩:=⟨_,J⟩;have LO:d.size<=20:=by rw[hd];simpa[ByteArray.size]using hl
  rw[<-hd]at HI;have HV:=aa (show bs (cr 32 (e3 ⟨2,n⟩))=⟨#[100,101,110,121,32]⟩++d by rw[hd,show(⟨#[100,101,110,121,32]⟩:ByteArray)=bs [100,101,110,121,32]from J,show(⟨(aQ n).toArray⟩:ByteArray)=bs (aQ n)from J,b7];simp[e3,cr,o_]);have HE:=aa hE;clear hd hE h hl;have z1:¬9223372036854775807<5+d.size:=by omega
  unfold fe;simp only;go_enter func90,ntmps90;go_wp2_with(go_at_call 60;refine(HI _ (HE.out.au (ai _ _)).oR).mono ?_;rintro e w'⟨rfl,hb⟩);go_ret;exact⟨by rw[HV.out];rfl,ax (ai _ _) hb⟩
end Go.Proofs.YtefdakbahplnbaaGreatDoor
