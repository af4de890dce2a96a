/- ConsoleSays returns true, for all texts and lines, and leaves them as they were, over the tables that the program's text lays: the row, and its card. -/
import Derived.Test.YtefdakbahplnbaaGreatDoorK38
import Derived.Test.YtefdakbahplnbaaGreatDoorK39
import Derived.Lay
open Go.Proofs.Tryz
open Go renaming Value->ag,World->ac,cell_of_row->aT,heap_alloc_new->a7
open Go.IntKind renaming i64->R
open Go.Obj renaming cells->gX
open Go.Proofs.Tryz renaming checked->nL,f3->FU,prog->ae
open Go.Value renaming cells->JI,int->I,slice->ak,string->ad
open List renaming append_nil->ry,getElem?_eq_getElem->cq,mem_of_getElem?->iy,nil_append->vz,range->tX,take_length->sE
open Nat renaming le_refl->aA,le_trans->bL,lt_of_lt_of_le->dk
open Option renaming none->ab,some->U
open Option.some renaming inj->dG,injEq->cm
namespace Go.Proofs.YtefdakbahplnbaaGreatDoor
open Go.RowKit
theorem ad6{t:W8}(h:(fR t).2=0):cM (fR t).1=0:=by
 unfold fR at h⊢;split at h;.cases h
 .rw[if_neg (by assumption)];split at h;.rename_i aiu rg;exact(O7 rg).2.1
  .cases h
theorem hq.heap{oa:Option Addr}{ls:List W8}{X Y:ac}(h:hq oa ls X)(hb:∀k,k<X.heap.size->Y.heap[k]?=X.heap[k]?)(F:X.heap.size<=Y.heap.size):hq oa ls Y:=⟨fun h0=>by obtain⟨b,off,q,h2,h3⟩:=h.ez h0;exact⟨b,off,q,dk h2 F,fun i x hi=>(dt (hb b h2) _).trans (h3 i x hi)⟩⟩
theorem aaW{w:ac}{b1 b2 n m z1 z2:Nat}{e t:TypeId}{ay v:ag}{xs ys:List ag}(h:w.ownsRow b1 e z1 v n xs)(k:w.ownsRow b2 t z2 ay m ys)(he:e≠t){j:Nat}(hu:ay.ownBlock=U j):v.ownBlock≠U j:=by
 rcases k.2 with⟨rfl,_⟩|⟨g,cap,co,rfl,_,hg,_⟩;.cases hu
 .rcases h.2 with⟨rfl,_⟩|⟨Df,Nf,apG,rfl,_,yu,_⟩;.intro h;cases h
  .intro hv;simp only[Value.ownBlock,cm]at hu hv;subst hu;subst hv;rw[hg]at yu;simp only[cm,Obj.cells.injEq]at yu;exact he yu.2.1.symm
theorem DX.L7{gd:Nat}{aE:PV}{d:bC}{E:Nat->ag}{ld:ag}{W:ac}(h:DX gd aE d E ld W){base n:Nat}{v:ag}{xs:List ag}(ho:W.ownsRow base 9 1 v n xs)(hb:gd<base){k:Nat}(z:v.ownBlock=U k):¬vN gd E ld k:=by
 rintro(rfl|q|⟨m,hm,q⟩);.have:=(ho.lt k z).1;omega
 .exact aaW h.cW ho (by decide) z q
 .exact aaW (h.oM m hm) ho (by decide) z q
set_option maxHeartbeats 8000000 in set_option maxRecDepth 20000 in theorem adH(B:ByteArray)(N:B.size<=maxLen)(ls:List W8)(Gq:ls.length<=maxLen)(B9:∀x∈ls,x.length<=maxLen)(oa:Option Addr)(cap:Nat)(zD:oa=ab->ls.length=0/\cap=0)(w:ac)(hL:hq oa ls w)(hE:EV w):Calls ae 3 #[ad B,ak oa ls.length cap] w fun e w'=>e= .returned (.bool true)/\Below w.heap.size w w':=by
 have AH:=aeT w hE;have hqm:(B.size:Int)<=9223372036854775807:=by unfold maxLen at N;omega
 obtain⟨n,u⟩:=af ls.length;have qw:(n:Int)<=9223372036854775807:=by unfold maxLen at Gq;omega
 rw[<-u]at zD⊢;by_cases ah3:9000<B.size\/130<n
 .as_aux_lemma=>
   have hw:(9000:Int)<B.size\/((B.size:Int)<=9000/\(130:Int)<n):=by omega
   clear N Gq zD u;rcases hw with hw|⟨dF,hw⟩;.go_enter func3,ntmps3;go_wp2_with fail;refine AH.mono ?_;rintro e X⟨rfl,hX⟩;go_wp2;go_ret;exact⟨J,hX⟩
   .go_enter func3,ntmps3;go_wp2_with fail;refine AH.mono ?_;rintro e X⟨rfl,hX⟩;go_wp2;go_ret;exact⟨J,hX⟩
 have h9:¬(9000:Int)<B.size:=by omega
 have apU:¬(130:Int)<n:=by omega
 have aps:n<=130:=by omega
 have HN:=aa u;have ai3:=aa zD;have HL:=aa hL;have VP:=aa B9;have HE:=aa hE;clear u zD hL B9 hE N Gq ah3 qw;go_enter func3,ntmps3;go_wp2_with fail;refine AH.mono ?_;rintro e X⟨rfl,hX⟩;have HX:=aa hX;clear hX AH;go_wp2_with fail;go_loopw[6](fun aL wr=>∃i:Nat,i<=n/\aL=I R i/\wr=X/\Hid (∀x∈ls.take i,x.length<=400))(fun aL _=>n-(intOf aL).toNat);case atStart=>exact⟨0,by omega,J,J,aa (fun x hx=>by cases hx)⟩
 case round=>
  obtain⟨i,hi,rfl,rfl,HS⟩:=hrel;by_cases am:i<n
  .as_aux_lemma=>
    have xT:(i:Int)<n:=by omega
    have jM:(0:Int)<=i:=by omega
    obtain⟨x,f'⟩:∃x,ls[i]?=U x:=⟨_,cq (by rw[<-HN.out];exact am)⟩;obtain⟨b,off,rfl,ds,dX⟩:=(HL.out.au HX.out).ez (by rw[<-HN.out];omega);have c1:=dX i x f';have sV:(bs x).size=x.length:=ct x;have tb:=VP.out x (iy f');have U6:((bs x).size:Int)<=9223372036854775807:=by unfold maxLen at tb;omega
    have HT:=aa (show ls.take (i+1)=ls.take i++[x]by rw[List.take_add_one,f'];rfl);by_cases h4:400<x.length
    .have xP:(400:Int)<(bs x).size:=by omega
     obtain⟨al,hy⟩:=af (bs x);rw[<-hy]at c1 xP U6 sV;clear dX f' hy sV;go_wp2;go_ret;exact⟨J,HX.out⟩
    .have xP:¬(400:Int)<(bs x).size:=by omega
     obtain⟨al,hy⟩:=af (bs x);rw[<-hy]at c1 xP U6 sV;clear dX f' hy sV;go_wp2;go_round;case rel=>
      exact⟨i+1,by omega,by go_num,trivial,aa (fun aI hz=>by
       rw[HT.out]at hz;rcases List.mem_append.1 hz with h|h;.exact HS.out aI h
       .rw[List.mem_singleton.1 h];omega)⟩
     case measure=>simp[intOf];omega
  .obtain rfl:i=n:=by omega
   have X8:=aa (show∀x∈ls,x.length<=400 by have:=HS.out;rwa[show ls.take i=ls by rw[HN.out];exact sE]at this);clear HS VP;have xT:¬(i:Int)<i:=by omega
   obtain⟨t,ht⟩:∃t:W8,t=B.data.toList:=⟨_,J⟩;have XB:bs t=B:=by rw[ht];exact Dc B
   have Dj:t.length<=9000:=by rw[ht,<-Lib.size_eq];omega
   have qj:=fun Kt vn W hL hE=>Wi t Dj ls X8.out (by rw[<-HN.out];omega) Kt vn W hL hE;have yh:=fun W=>acP t Dj W;simp only[XB,<-HN.out]at qj yh;go_wp2_with first|(at_builtin;refine am6 J _ _ J wr.heap.size ?_ oa ls cap ?_ (by rw[<-HN.out];exact ai3.out) (HL.out.au HX.out) (by rw[<-HN.out];omega) (aA _) ?_;(.rfl);(.rw[<-HN.out];rfl);intro v1 w1 gC bb;have gI:=aa gC;have dw:=aa bb;clear gC bb)|(at_builtin;refine XR J _ _ J wr.heap.size v1 ls ?_ (gI.out.alloc _) w1.heap.size [109,97,114,107] ?_ (a7 _ _) (by rw[<-HN.out];omega) (bL dw.out.size (ai w1 (gX #[ad (bs [109,97,114,107])] 9)).size) ?_;(.rfl);(.rfl);intro go cp w2 dA hg2;have QH:i+1<=cp:=(by rcases dA.2 with⟨h,_⟩|⟨_,_,_,h,_,_,h2,_⟩;(.cases h);(.cases h;rw[HN.out];exact h2));have df:=aa ((dw.out.trans ((ai w1 (gX #[ad (bs [109,97,114,107])] 9)).mono dw.out.size)).grown hg2 (bL dw.out.size (ai w1 (gX #[ad (bs [109,97,114,107])] 9)).size) (fun k z=>(gI.out.lt k z).1));have ur:=aa (acL dA);clear dA hg2 gI dw;simp only[<-HN.out])
   have wH:=aa (HX.out.trans (df.out.mono HX.out.size));refine(qj _ _ w2 ur.out (HE.out.au wH.out)).mono ?_;rintro e X3⟨hR,aqv⟩;have l4:=aa (ax wH.out aqv);have xW:=aa (ur.out.au aqv);unfold Rp at hR;have qQ:=show zK t ls=if(fR t).2=0 then(if 120<ls.length then 2 else 0)else(fR t).2 from J;rw[<-HN.out]at qQ hR;have A2:=aa (ad6 (t:=t));obtain⟨p,hp⟩:=af (fR t).1;obtain⟨f,M⟩:=af (fR t).2;simp only[<-hp,<-M]at hR yh qQ A2;obtain⟨d5,hF⟩:=af (zK t ls);rw[<-hF]at hR qQ;unfold ep at yh;have iq:=SS d5;clear hF hp M XB Dj ht qj wH aqv df ur;obtain⟨m,hm⟩:=af p.bw.length;obtain⟨aN,uV⟩:=af p.bg.aF;obtain⟨aP,u'⟩:=af p.bg.aU;simp only[<-hm,<-uV,<-u']at yh;have P4:=aa (And.intro hm (And.intro uV u'));clear hm uV u';rcases hR with⟨IS,rfl⟩|⟨IS,hH,rfl,hS⟩
   .obtain⟨er,gc⟩:=af (cj d5);rw[<-gc]at iq⊢;have hFp:(0:Int)<d5:=by omega
    by_cases dn:f=0
    .rw[if_pos dn]at qQ;have IK:120<i:=by
      by_cases h:120<i;.exact h
      .rw[if_neg h]at qQ;exact absurd qQ IS
     rw[if_pos IK]at qQ;have ahh:(120:Int)<i:=by omega
     subst qQ;subst dn;clear gc IS;as_aux_lemma=>go_wp2_with fail;refine(yh X3).mono ?_;rintro e X4⟨⟨ob,dZ,rfl,Bb⟩,wk⟩;have A8:=aa (ax l4.out wk);clear wk Bb;go_wp2_with(go_at_call 7;refine(iq _).mono ?_;rintro e aK⟨rfl,hZ⟩;rw[hZ];clear hZ aK);go_ret;exact⟨J,ax A8.out (ai _ _)⟩
    .rw[if_neg dn]at qQ;subst qQ;have apO:¬(d5:Int)=0:=by omega
     clear gc IS;as_aux_lemma=>go_wp2_with fail;refine(yh X3).mono ?_;rintro e X4⟨⟨ob,dZ,rfl,Bb⟩,wk⟩;have A8:=aa (ax l4.out wk);clear wk Bb;go_wp2_with(go_at_call 7;refine(iq _).mono ?_;rintro e aK⟨rfl,hZ⟩;rw[hZ];clear hZ aK);go_ret;exact⟨J,ax A8.out (ai _ _)⟩
   .subst IS;have dn:f=0:=by
     by_cases h:f=0;.exact h
     .rw[if_neg h]at qQ;omega
    have IK:¬120<i:=fun h=>by rw[if_pos dn,if_pos h]at qQ;cases qQ
    have ahh:¬(120:Int)<i:=by omega
    subst dn;have qK:=A2.out J;have UI:=aa hS;have agh:∀W,Calls ae 7 #[.nilIface,I R 0] W fun e w'=>e= .returned (.bool true)/\w'=W:=SS 0;clear qQ A2 hS iq;go_wp2_with fail;refine(yh X3).mono ?_;rintro e X4⟨⟨ob,dZ,rfl,Bb⟩,wk⟩;have pm:=aa (And.intro qK (BW qK Bb.ok));have ce:=ai X4 (.cells #[ak ob m dZ,I R aN,I R aP] 32);have ye:=aa (ax (ax l4.out wk) ce);have Na:=aa ((UI.out.au wk).au ce);have Uo:=aa ((xW.out.au wk).au ce);obtain⟨X5,Mg⟩:=af (X4.alloc (.cells #[ak ob m dZ,I R aN,I R aP] 32));have eV:X5.heap[X4.heap.size]?=U (.cells #[ak ob m dZ,I R aN,I R aP] 32 (0,0)):=by rw[Mg];exact a7 _ _
    have d0:X5.cell? ⟨X4.heap.size,0,ab⟩=U (ak ob m dZ):=aT _ _ 0 _ _ _ eV;have d1:X5.cell? ⟨X4.heap.size,1,ab⟩=U (I R aN):=aT _ _ 1 _ _ _ eV;have d2:X5.cell? ⟨X4.heap.size,2,ab⟩=U (I R aP):=aT _ _ 2 _ _ _ eV;rw[<-Mg]at ye Na Uo ce;have NA:=ahJ p ob dZ X4.heap.size X5 (fun V hV F=>Bb.heap (fun k z=>(hV k z).trans (ce.block k z)) F) ce.size;unfold ep at NA;rw[<-P4.out.1,<-P4.out.2.1,<-P4.out.2.2]at NA;have SQ:=aa Mg;clear Mg eV ce wk Bb UI xW l4 yh;go_wp2_with fail;rw[<-SQ.out];refine NA.mono ?_;rintro e X6⟨rfl,IY,UP⟩;obtain⟨gd,de⟩:=af (X5.heap.size+1);rw[<-de]at IY⊢;obtain⟨aE,qD⟩:∃aE:PV,aE=⟨p,ob,dZ,X4.heap.size⟩:=⟨_,J⟩;rw[<-qD]at IY;have kP:aE.cF<=X5.heap.size:=by rw[qD,SQ.out];show X4.heap.size<=(X4.alloc _).heap.size;rw[World.size_alloc];omega
    have hS6:en p gd aE LZ J8 (ak ab 0 0) kJ 0 X6:=⟨IY,agQ,oY.start p,by rw[qD],pm.out.1,pm.out.2⟩;have Kg:=IY.gh;have HS6:=aa hS6;have yH:=aa UP;have ue:=aa de;have HBD:=aa kP;clear IY UP de qD kP hS6 NA d0 d1 d2 qK pm SQ;go_wp2_with fail;go_loopw[13,14](fun br aL wx=>∃(j:Nat)(d:bC)(E:Nat->ag)(ld:ag),j<=i/\aL=I R j/\Hid (en p gd aE d E ld (iY p kJ (ls.take j)).1 (j*1000) wx)/\Hid (wx.ownsRow X6.heap.size 9 1 br j (k_ (iY p kJ (ls.take j)).2))/\Hid (Fw (·=gd) X6 wx)/\Hid (∀k,vN gd E ld k->k=gd\/X6.heap.size<=k))(fun _ aL _=>i-(intOf aL).toNat);case atStart=>
     exact⟨0,LZ,J8,ak ab 0 0,by omega,J,HS6,aa (World.ownsRow_nil _ _ _ _),aa ⟨J,J,J,aA _,fun _ _ _=>J⟩,aa (fun k z=>by
      rcases z with h|h|⟨n,u,h⟩;.exact .inl h
      .cases h
      .cases h)⟩
    case round=>
     obtain⟨j,d,E,ld,hj,rfl,HS,HO,HT,HI⟩:=hrel;have Dd:=aa (show∀k,k<X5.heap.size->wr.heap[k]?=X5.heap[k]? from fun k z=>(HT.out.block k (dk z yH.out.size) (by rw[ue.out];omega)).trans (yH.out.block k z));have MQ:=aa (bL yH.out.size HT.out.size);by_cases am:j<i
     .as_aux_lemma=>
       have Qf:(j:Int)<i:=by omega
       have jM:(0:Int)<=j:=by omega
       obtain⟨x,f'⟩:∃x,ls[j]?=U x:=⟨_,cq (by rw[<-HN.out];exact am)⟩;obtain⟨b,off,rfl,ds,dX⟩:=((HL.out.au ye.out).heap Dd.out MQ.out).ez (by rw[<-HN.out];omega);have c1:=dX j x f';have rD:=agf HS.out (by omega) x (X8.out x (iy f'));have rN:=aa (YB p kJ ls j (by rw[<-HN.out];exact am));rw[show ls.getD j []=x by rw[List.getD_eq_getElem?_getD,f'];rfl]at rN;have sw:=aa (show(iY p kJ (ls.take j)).2.length=j by rw[KG,List.length_take,<-HN.out];omega);obtain⟨al,hy⟩:=af (bs x);rw[<-hy]at c1 rD;obtain⟨S2,Ji⟩:=af (hO p (iY p kJ (ls.take j)).1 x);rw[<-Ji]at rD rN;unfold Fz at rD;obtain⟨Qi,Gw⟩:=af (iY p kJ (ls.take j)).2;rw[<-Gw]at rN sw HO;clear dX f' hy Ji Gw Dd;go_wp2_with first|(go_at_call 9;(with_reducible refine rD.mono ?_);(rintro e aK⟨rfl,d2,pX,QC,hD,hF⟩);have HD:=aa hD;have HF:=aa hF;(have Ny:=aa (show aK.ownsRow X6.heap.size 9 1 u13 Qi.length (k_ Qi)from(by rw[sw.out];exact Ms HO.out fun k z=>HF.out.block k (HO.out.lt k z).2 (fun e=>HS.out.iQ.L7 HO.out Kg z (.inl e)) (fun e=>HS.out.iQ.L7 HO.out Kg z (.inr (.inl e))) fun n h3 e=>HS.out.iQ.L7 HO.out Kg z (.inr (.inr ⟨n,h3,e⟩)))));clear hD hF rD)|(at_builtin;refine XR J _ _ J X6.heap.size u13 Qi ?_ (Ny.out.alloc _) aK.heap.size S2.2 ?_ (a7 _ _) (by rw[sw.out];omega) (bL HT.out.size (bL HF.out.size (ai aK (gX #[ad (bs S2.2)] 9)).size)) ?_;(.rfl);(.rfl);intro n7 iX BH ho8 Xd;have HO8:=aa ho8;have wJ:=aa Xd;clear ho8 Xd;simp only[sw.out])
       have CI:=aa (HD.out.au (ai aK (gX #[ad (bs S2.2)] 9)));have lc:=aa (Ny.out.alloc (gX #[ad (bs S2.2)] 9));have DK:Hid (Fw (fun k=>u13.ownBlock=U k) (aK.alloc (gX #[ad (bs S2.2)] 9)) BH):=aa ⟨wJ.out.os,wJ.out.tape,wJ.out.output,wJ.out.size,fun k z u=>wJ.out.block k z (fun e=>u e.symm)⟩;have hdx:=CI.out.iQ.MV DK.out fun k z=>⟨CI.out.iQ.L7 lc.out Kg z,by have:=(lc.out.lt k z).1;have:=HBD.out;have:=yH.out.size;omega⟩;have HD8:=aa (show en p gd aE d2 pX QC S2.1 ((j+1)*1000) BH from⟨hdx,CI.out.tie,CI.out.mc.cx (by omega),CI.out.yg,CI.out.pf,CI.out.pk⟩);have HI8:=aa (show∀k,vN gd pX QC k->k=gd\/X6.heap.size<=k from fun k z=>by
        have hw6:=HT.out.size;rcases z with h|h|⟨n,u,h⟩;.exact .inl h
        .rcases HF.out.Eh k h with h|h;.exact HI.out k (.inr (.inl h))
         .exact .inr (by omega)
        .rcases HF.out.Ds n u k h with h|h;.exact HI.out k (.inr (.inr ⟨n,u,h⟩))
         .exact .inr (by omega));have HT8:=aa (show Fw (·=gd) X6 BH from⟨wJ.out.os.trans (HF.out.os.trans HT.out.os),wJ.out.tape.trans (HF.out.tape.trans HT.out.tape),wJ.out.output.trans (HF.out.output.trans HT.out.output),bL HT.out.size (bL HF.out.size (bL (ai aK (gX #[ad (bs S2.2)] 9)).size wJ.out.size)),fun k z u=>by
        have hw6:=HT.out.size;have hz:=HF.out.size;have hni:¬vN gd E ld k:=fun h=>by
         rcases HI.out k h with h|h;.exact u h
         .omega
        rw[wJ.out.block k (dk (show k<aK.heap.size by omega) (ai aK (gX #[ad (bs S2.2)] 9)).size) (fun e=>by have:=(lc.out.lt k e.symm).1;omega),(ai aK (gX #[ad (bs S2.2)] 9)).block k (by omega),HF.out.tch.block k (by omega) hni];exact HT.out.block k z u⟩);go_wp2;go_round;case rel=>exact⟨j+1,d2,pX,QC,by omega,by go_num,aa (by rw[rN.out];exact HD8.out),aa (by rw[rN.out];have:=HO8.out;rw[sw.out]at this;exact this),HT8,HI8⟩
       case measure=>simp[intOf];omega
     .obtain rfl:j=i:=by omega
      have Qf:¬(j:Int)<j:=by omega
      have wD:=HO.out;rw[show ls.take j=ls by rw[HN.out];exact sE]at wD;have sw:=aa (show(iY p kJ ls).2.length=j by rw[KG,HN.out]);obtain⟨bd,hR⟩:=af (iY p kJ ls).2;rw[<-hR]at wD Na sw;rw[<-sw.out]at wD;obtain⟨aee,Gm,hV,_,_,hIW⟩:=Vo wD;rw[sw.out]at hV;subst hV;have aam:=S7 bd (by rw[sw.out];omega) (U ⟨hH,0,ab⟩) aee j Gm wr (Zg (Na.out.heap (Dd.out hH Na.out.lt))) hIW;rw[sw.out]at aam;have UV:=fun W hb=>S7 ls (by rw[<-HN.out];omega) (U ⟨go,0,ab⟩) oa cp cap W ((Uo.out.heap Dd.out MQ.out).au hb) (((HL.out.au ye.out).heap Dd.out MQ.out).au hb);rw[<-HN.out]at UV;have J':=aa (show Below w.heap.size w wr from⟨HT.out.os.trans (yH.out.os.trans ye.out.os),HT.out.tape.trans (yH.out.tape.trans ye.out.tape),HT.out.output.trans (yH.out.output.trans ye.out.output),bL ye.out.size MQ.out,fun k z=>(Dd.out k (dk z ye.out.size)).trans (ye.out.block k z)⟩);clear hR wD hIW HS HO HI;as_aux_lemma=>
       go_wp2_with first|(go_at_call 7;refine(agh _).mono ?_;rintro e aK⟨rfl,hZ⟩;rw[hZ];clear hZ aK)|(go_at_call 10;with_reducible refine aam.mono ?_;rintro e Z1⟨rfl,eH⟩;have lg:=aa eH;clear eH)|(go_at_call 10;with_reducible refine(UV _ lg.out).mono ?_;rintro e Z2⟨rfl,d9⟩;have gp:=aa d9;clear d9)
       go_ret;exact⟨J,ax (ax J'.out lg.out) gp.out⟩
end Go.Proofs.YtefdakbahplnbaaGreatDoor
namespace Go.Proofs.YtefdakbahplnbaaGreatDoor
open Go.ChangeShapes Go.WideShapes Go.ChangeAt Go.WideMaps Go.WideElems Go.RowKit
open Go.ChangeMaps(open_string shut_string)
set_option maxRecDepth 100000 in theorem aoV{ge:Type}{enc:TypeId×ag->ge}{W:ac}{v:ag}{d:DataW ge}{p:List MemPlace}{r:Reach}{b_:Nat}(hv:Value.okWide ae W r b_ 22 v)(h:DataW.Trod enc ae W 0 (fun _=>true) true 22 v d p):∃(oa:Option Addr)(cap:Nat)(ls:List W8),v=ak oa ls.length cap/\(oa=ab->ls.length=0/\cap=0)/\ls.length<=maxLen/\(∀x∈ls,x.length<=maxLen)/\hq oa ls W:=by
 obtain⟨oa,n,cap,rfl⟩:=okWide_slice underlying22 hv;obtain⟨b6,M⟩:=h;rcases Go.Deep.open_slice underlying22 M with⟨cH,_⟩|⟨a,len,Nf,m,fu,Kf,app,cH,_,hl,hm,D7,_,hx⟩;.simp only[JI,List.cons.injEq,Value.slice.injEq,and_true]at cH;obtain⟨rfl,rfl,rfl⟩:=cH;exact⟨ab,0,[],J,fun _=>⟨J,J⟩,Nat.zero_le _,(fun x hx=>by cases hx),⟨fun h0=>absurd h0 (Nat.lt_irrefl 0)⟩⟩
 .simp only[JI,List.cons.injEq,Value.slice.injEq,and_true]at cH;obtain⟨rfl,rfl,rfl⟩:=cH;rw[if_pos J]at D7;subst D7;rw[Xo]at hx;have hy:∀i,i<n->∃al:W8,∃mZ,W.cells? 0 (a.add (i*1)) 1=U mZ/\mZ=[ad (bs al)]/\al.length<=maxLen:=fun i hi=>by obtain⟨mZ,q,h2⟩:=hx i (by omega);obtain⟨s,rfl,_,F⟩:=DataW.trod_string underlying9 h2;exact⟨s.data.toList,_,q,by rw[Dc],by rw[<-Lib.size_eq];exact F⟩
  obtain⟨aC,hL⟩:=Go.Deep.choose_lt hy;have cY:((tX n).map aC).length=n:=by simp
  refine⟨U a,m,(tX n).map aC,by rw[cY],(fun h=>by cases h),(by rw[cY];omega),fun x hx=>?_,⟨fun h0=>?_⟩⟩;.obtain⟨i,hi,rfl⟩:=List.mem_map.1 hx;obtain⟨_,_,_,h3⟩:=hL i (List.mem_range.1 hi);exact h3
  rw[cY]at h0;obtain⟨b,off,spot⟩:=a;obtain⟨cs0,k1,k2,_⟩:=hL 0 h0;have qP:=(World.cells?_some k1).2.2 0 (by omega);rw[k2]at qP;have aeL:spot=ab:=by simpa[Addr.add]using World.cell?_spot qP
  subst aeL;refine⟨b,off,J,World.cells?_block (by rw[Nat.zero_mul]at k1;simpa[Addr.add]using k1) (by omega:0<1),fun i x hi=>?_⟩;rw[List.getElem?_map]at hi;obtain⟨i',e7,rfl⟩:=Option.map_eq_some_iff.1 hi;have dV:i<n:=by have:=(List.getElem?_eq_some_iff.1 e7).1;simpa using this
  obtain rfl:i=i':=by rw[List.getElem?_range dV]at e7;exact dG e7
  obtain⟨mZ,k1,rfl,k3⟩:=hL i dV;have:=amU k1 0 (by omega);rw[Nat.mul_one,Nat.add_zero]at this;exact this
set_option maxRecDepth 100000 in theorem ago(os:Os)(IV:os.Started)(ge:Type)(enc:TypeId×ag->ge):ReturnsInHanded {} nL os 3 .any (fun w args=>(Rows.consoleSaysSpec.pre enc ae FU [] false w args/\laidMetH ae Rows.consoleSaysRow.laid w)/\sizedMet enc ae FU (OpenSpec.ofChange Rows.consoleSaysSpec) false w args) (Rows.consoleSaysSpec.post enc ae FU false true false false):=by
 refine alm (X:=fun w=>laidMetH ae Rows.consoleSaysRow.laid w) (fun _ _ hh h=>h.of_heap hh) IV (by kernel_rfl) func3 (ChangeSpec.witness_shaped (enc:=enc) (C:=nL) (os:=os) (X:=fun w _=>laidMetH ae Rows.consoleSaysRow.laid w) false (World.laidAll ae os Rows.consoleSaysRow.laid) #[ad ⟨#[]⟩,ak ab 0 0] 8 (World.laidAll_os _ _ _) (World.shaped_of_ZipB (by kernel_rfl) (by kernel_rfl)) (by kernel_rfl) (by kernel_rfl) (by kernel_rfl) (by rw[MakeChecks.laidMetH_plain _ _ _ (by kernel_rfl)];exact laidMet_laidAll _ (by kernel_rfl) (by kernel_rfl))) ?_;intro W base args rR gs uz Xe hW hL mR;have yG:∀(j:Nat)t v,FU.params[j]?=U t->args[j]?=U v->Value.okWide ae W .any base t v:=Xe;have E7:=hW;obtain⟨p,B,Gw,hV,rfl,rP,Et⟩:=hW;have hA:DataW.TrodAll enc ae W 0 (fun _=>true) true FU.params.toList args.toList rR p:=Gw;rw[Tryz.params3]at hA yG;obtain⟨v0,v1,d0,d1,p0,p1,rfl,rfl,rfl,h0,q⟩:=trodAll_two hA;obtain⟨rfl,rfl⟩:=trodVars_none hV;obtain⟨s0,rfl,rfl,rfl,Fa⟩:=open_string underlying9 (yG 0 9 v0 J J) h0;obtain⟨oa,cap,ls,rfl,zD,Gq,B9,hIS⟩:=aoV (yG 1 22 v1 J J) q;clear Gw Xe;simp only[ry,vz]at E7;refine(adH s0 Fa ls Gq B9 oa cap zD W hIS (aoF hL J ⟨_,J⟩ mR)).mono fun e W'⟨he,hb⟩=>?_;subst he;have am:∀x∈p1,x.block<W.heap.size:=fun x hx=>by simpa using E7.lt x hx
 refine⟨_,J,acY (LK:=p1) (ym:=[]) E7 (fun _ _ _=>trodAll_mk1 (shut_bool underlying4 _)) ?_ (fun _ _=>J) (ry _).symm hb⟩;have h:=trodAll_mk2 (enc:=enc) (P:=ae) (w:=W') (base:=0) (spare:=fun b=>decide (b<W.heap.size)) (held:=true) (shut_string underlying9 Fa) (Below.trod agw (by kernel_rfl) (of_decide_eq_true (by kernel_rfl)) q hb fun x hx=>am x hx);rw[vz]at h;exact h
theorem adL:Rows.ConsoleSaysSaid:=OpenClaim.holds_of_wide 3 FU J J J J J J J ⟨J,J,J,J,J⟩ J J J J J (by kernel_rfl) func3 (by kernel_rfl) (of_decide_eq_true (by kernel_rfl)) (by unfold Func.isWrapper;first|(rw[if_pos (by decide+kernel)];kernel_rfl)|(rw[if_neg (by decide+kernel)];exact⟨J,J⟩)) (fun os IV ge enc _=>ago os IV ge enc)
set_option maxRecDepth 100000 in theorem aji(f:FuncId)(fn:Func)(M:Tryz.pinned.checked.prog.funcNamed "doorward/doorwardlaw.ConsoleSays"=U f)(vj:Tryz.pinned.checked.prog.funcs[f]?=U fn):true=Tryz.pinned.checked.prog.looks []/\∀(j:Nat)t,fn.params[j]?=U t->Tryz.pinned.checked.prog.wantsStandIn t=false:=by obtain rfl:f=3:=dG ((show ae.funcNamed "doorward/doorwardlaw.ConsoleSays"=U 3 by kernel_rfl).symm.trans M)|>.symm;obtain rfl:fn=FU:=(dG (Tryz.func3.symm.trans vj)).symm;refine⟨by kernel_rfl,fun j t ht=>?_⟩;rw[Tryz.params3]at ht;match j,ht with|0,ht=>obtain rfl:=dG ht;exact(by kernel_rfl:Tryz.pinned.checked.prog.wantsStandIn 9=false)|1,ht=>obtain rfl:=dG ht;exact(by kernel_rfl:Tryz.pinned.checked.prog.wantsStandIn 22=false)|j+2,ht=>simp at ht
theorem consoleSays_card:Rows.ConsoleSaysCardSaid:=Claim7.holds_tied_plain_at .later [] _ _ _ _ adL (fun _ h=>by cases h) (by kernel_rfl) (fun _ h=>by cases h) consoleSays_row_tie J ⟨J,J⟩ (by kernel_rfl) J aji (by kernel_rfl)
#print axioms consoleSays_card
end Go.Proofs.YtefdakbahplnbaaGreatDoor
