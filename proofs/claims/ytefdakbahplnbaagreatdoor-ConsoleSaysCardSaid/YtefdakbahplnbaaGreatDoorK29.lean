/- The console's log: argsText, entryText. -/
import Derived.Test.YtefdakbahplnbaaGreatDoorK27
import Derived.Test.YtefdakbahplnbaaGreatDoorK28
open Go.Proofs.Tryz
open ByteArray renaming append_assoc->xj,size_append->ml
open Go renaming Calls->ap,Regrown->eh,Value->ag,World->ac,below_regrown->cN,cell_of_row->aT,cell_regrown->aJ,heap_alloc_new->a7,setCell_eq_setRow->cJ,wpQuiet_nil->e6,wp_region_quiet_below->fI
open Go.Act renaming put->ar
open Go.Calls renaming regrown_of->fU
open Go.Ending renaming returned->aq
open Go.IntKind renaming i64->R,u32->aj,u64->ah,u8->aM,wrap_u8->acK
open Go.Lib renaming decDigits->aQ,size_eq->dy,toList_data->tR
open Go.Proofs.Tryz renaming prog->ae
open Go.RowKit.Below renaming refl->aS,trans->T3
open Go.Value renaming bool->aH,int->I,pointer->av,slice->ak,string->ad,tuple->az
open Int renaming tmod->zc
open List renaming getElem?_cons_succ->c7,getElem?_cons_zero->cT,getElem?_toArray->cK,length_append->cl
open Nat renaming le_refl->aA,sub_self->zd
open Option renaming none->ab,some->U
open UInt8 renaming ofNat->bB
namespace Go.Proofs.YtefdakbahplnbaaGreatDoor
open Go.RowKit Go.Sort
theorem aed(nr:Nat)(h:nr<=8)(w:ac):(Instr.index 188 (.agg qX) (I aj nr)).run ae w= .ok (AF nr) w:=by rcases sf h with rfl|rfl|rfl|rfl|rfl|rfl|rfl|rfl|rfl<;>kernel_rfl
theorem agc(nr i:Nat)(h:i<4)(w:ac):(Instr.index 185 (n5 nr) (I R i)).run ae w= .ok (I R (a1 nr i:Nat)) w:=by rcases(by omega:i=0\/i=1\/i=2\/i=3)with rfl|rfl|rfl|rfl<;>kernel_rfl
structure Dq(e:EN):Prop where
 cg:e.cg<3
 kl:hc e.call
 vs:si e.aG
 aU:0<=e.aU/\e.aU<=255
 nr:e.aF≠2->e.aF≠3->e.call.nr<=8
 aB:e.aF≠2->e.aF≠3->∀i,0<=(e.aG.eu i).aB/\(e.aG.eu i).aB<=65535
theorem aaf{p:bj}{s:WS}(hi:dT p s)(hl:iD s){e:EN}(he:e∈s.aX):Dq e:=by
 have h:=hi.aX e he;have z:e.aF≠2->e.aF≠3->e.aF=1:=fun h2 h3=>by have:=h.aF;omega
 exact⟨h.cg,h.kl,h.vs,h.aU,fun h2 h3=>(hl e he (z h2 h3)).1,fun h2 h3=>(hl e he (z h2 h3)).2⟩
theorem R9(e:EN):(gE e).size=21:=rfl
theorem acm(e:EN)(i:Nat)(h:i<4):(gE e)[4+i]?=U (I ah (fk e.call i:Nat)):=by rcases(by omega:i=0\/i=1\/i=2\/i=3)with rfl|rfl|rfl|rfl<;>rfl
theorem aaK(e:EN)(i:Nat)(h:i<4):(gE e)[8+i*3]?=U (ad (e.aG.eu i).bf)/\(gE e)[8+i*3+1]?=U (I aj (e.aG.eu i).ip)/\(gE e)[8+i*3+2]?=U (I R (e.aG.eu i).aB):=by rcases(by omega:i=0\/i=1\/i=2\/i=3)with rfl|rfl|rfl|rfl<;>exact⟨J,J,J⟩
theorem IE(c:KL)(H:hc c)(v:VS)(hv:si v)(hp:∀i,0<=(v.eu i).aB/\(v.eu i).aB<=65535):∀i,(gY c v i).length<=3000*i
 |0=>aA _
 |i+1=>by
  have ih:=IE c H v hv hp i;have q:=nDigits_le20 (fk c i) (Fe H i);have h2:=nDigits_le20 (v.eu i).ip (by have:=(hv.eu i).ip;omega);have h3:=nDigits_le20 (v.eu i).aB.toNat (by have:=hp i;omega);have h4:=(hv.eu i).bf;rw[dy]at h4;show(gY c v i++uT c v i).length<=_;have h5:(uT c v i).length<=3000:=by
   unfold uT;repeat' split
   all_goals simp only[List.length_cons,cl,List.length_nil,Gf]
   all_goals omega
  rw[cl];omega
set_option maxHeartbeats 4000000 in set_option maxRecDepth 20000 in theorem ai7(e:EN)(bh:Dq e)(h2:e.aF≠2)(h3:e.aF≠3)(w:ac)(hE:EV w):ap ae 148 #[.agg (gE e)] w fun x w'=>x=aq (ad (bs (gY e.call e.aG 4)))/\Below w.heap.size w w':=by
 obtain⟨V,hV,hB,cP,hx⟩:=eN w (gE e) 103;have h8:=bh.nr h2 h3;have hp:=bh.aB h2 h3;have DB:=aed e.call.nr h8;have RJ:=Sv e.call.nr;have Fp:=agc e.call.nr;have HE:=aa hE;have D_:=aa bh.kl;have ID:=aa bh.vs;have qA:=aa hp;have ff:=aa (IE e.call bh.kl e.aG bh.vs hp);have HX:=aa hx;have k3:V.cell? ⟨w.heap.size,3,ab⟩=U (I aj e.call.nr):=hx 3;have CC:=aa (acm e);have vx:=aa (aaK e);have lF:=R9 e;obtain⟨br,hA⟩:=af (gE e);rw[<-hA]at hV HX CC vx lF⊢;obtain⟨c,H⟩:=af e.call;obtain⟨v,hv⟩:=af e.aG;rw[<-H]at DB RJ Fp D_ ff k3 CC⊢;rw[<-hv]at ID qA ff vx⊢;have kI:c.nr<=8:=by rw[H];exact h8
 obtain⟨nr,b0⟩:=af c.nr;rw[<-b0]at DB RJ Fp k3 kI;have m8:=aa b0;have S:=aa hB;clear b0 H hv hA hx hE bh h2 h3 h8 hp hB;go_enter func148,ntmps148;go_wp2_with fail;rw[<-hV];clear hV;have g3:=aJ k3;have kk:∀d os,ap ae 92 #[] (grow (redrawn V d) os) fun e bF=>e=aq (.agg qX)/\∃p:eh,bF=grow (redrawn V p.d) p.os:=fun d os=>fU (Gi _);refine fI (by kernel_rfl) (by kernel_rfl) ?_;repeat(go_big_quiet_step((go_at_call 92;exact kk _ _)))
 refine e6 ?_;intro _ bT;obtain⟨⟨dq,bJ⟩,bY⟩:=bT;subst bY;have dw:=aa (cN V dq bJ);obtain⟨W1,dU⟩:=af (grow (redrawn V dq) bJ);rw[<-dU]at dw⊢;clear dU g3 kk DB RJ k3;obtain⟨ap5,Yt⟩:=af (n5 nr);rw[<-Yt]at Fp⊢;clear Yt;obtain⟨fl,ce⟩:=af w.heap.size;rw[<-ce]at HX⊢;have jA:=aa ce;clear ce;go_wp2_with fail;go_loopw[3,13](fun eG aL wr=>∃i:Nat,i<=4/\aL=I R i/\eG=ad (bs (gY c v i))/\Hid (RowKit.Below V.heap.size V wr))(fun _ aL _=>4-(intOf aL).toNat);case atStart=>exact⟨0,by omega,J,J,dw⟩
 case round=>
  obtain⟨i,hi,rfl,rfl,kA⟩:=hrel;clear dw;by_cases am:i<4
  .have hl:(i:Int)<4:=by omega
   have jM:(0:Int)<=i:=by omega
   have HKW:=aa (m8.out);replace Fp:=Fp i am;have fj:wr.cell? ⟨fl,4+i,ab⟩=U (I ah (fk c i:Nat)):=ao kA.out ((HX.out _).trans (CC.out i am));have iX:wr.cell? ⟨fl,8+i*3,ab⟩=U (ad (v.eu i).bf):=ao kA.out ((HX.out _).trans (vx.out i am).1);have wQ:wr.cell? ⟨fl,8+i*3+1,ab⟩=U (I aj (v.eu i).ip):=ao kA.out ((HX.out _).trans (vx.out i am).2.1);have yT:wr.cell? ⟨fl,8+i*3+2,ab⟩=U (I R (v.eu i).aB):=ao kA.out ((HX.out _).trans (vx.out i am).2.2);have HS:=aa (show gY c v (i+1)=gY c v i++uT c v i from J);have hT:(bs (gY c v i)).size<=12000:=by rw[ct];have:=ff.out i;omega
   have Ax:=Fe D_.out i;have Hc:=ID.out.eu i;have jR:=qA.out i;obtain⟨T,xH⟩:=af (gY c v i);rw[<-xH]at HS hT⊢;obtain⟨wP,ub⟩:=af (fk c i);rw[<-ub]at fj Ax;obtain⟨vi,CH⟩:=af (v.eu i);rw[<-CH]at iX wQ yT Hc jR;obtain⟨p_,ip,aB⟩:=vi;obtain⟨oD,xv,_⟩:=Hc;simp only at iX wQ yT oD xv jR;obtain⟨pt,rfl⟩:∃n:Nat,aB=n:=⟨aB.toNat,by omega⟩;obtain⟨kd,fg⟩:=af (a1 nr i);rw[<-fg]at Fp;have pS:=aa (show uT c v i=if kd=1 then 32::aQ wP else if kd=2 then[32,34]++iH p_.data.toList++[34]else if kd=3 then[32]++aQ ip++[58]++aQ pt else[]by unfold uT;rw[ub,<-m8.out,<-fg,<-CH];rfl);have D5:(bs T).size<=12000:=hT;obtain⟨TB,tB⟩:=af (bs T);rw[<-tB]at hT⊢;have CO:=aa tB;have gD:=aa (HE.out.au (ax S.out kA.out));clear D5 tB ub CH fg xH HKW;have ce:=ai wr (.cells #[ad p_,I aj ip,I R pt] 71);have UR:=ao ce fj;have nX:=aa (ax kA.out ce);have j3:=aa (gD.out.au ce);clear ce fj;by_cases k1:kd=1
   .as_aux_lemma=>
     subst k1;have HN:=NZ wP Ax _ j3.out.oR;have s5:=yv Ax;have HQ:=aa (show TB++(⟨#[32]⟩++bs (aQ wP))=bs (gY c v (i+1))by rw[HS.out,pS.out,if_pos J,CO.out];exact(congrArg (bs T++·) (b7 [32] _)).trans (b7 _ _));obtain⟨d,hd⟩:=af (bs (aQ wP));rw[<-hd]at HN s5 HQ;clear hd;go_wp2_with(go_at_call 135;refine HN.mono ?_;rintro e X⟨rfl,hX⟩;have HX:=aa (ax nX.out hX);clear hX);go_round;case rel=>exact⟨i+1,by omega,by go_num,by rw[<-HQ.out],HX⟩
     case measure=>simp[intOf];omega
   .have k1':¬(kd:Int)=1:=by omega
    rw[if_neg k1]at pS;by_cases k2:kd=2
    .as_aux_lemma=>
      subst k2;have HN:=ak3 p_ oD (wr.alloc (.cells #[ad p_,I aj ip,I R pt] 71));have s5:(bs (iH p_.data.toList)).size<=2000:=by rw[ct,Gf,<-dy];omega
      have HQ:=aa (show TB++(⟨#[32,34]⟩++bs (iH p_.data.toList)++⟨#[34]⟩)=bs (gY c v (i+1))by rw[HS.out,pS.out,if_pos J,CO.out,show(⟨#[32,34]⟩:ByteArray)=bs [32,34]from J,show(⟨#[34]⟩:ByteArray)=bs [34]from J,b7,b7,b7]);obtain⟨d,hd⟩:=af (bs (iH p_.data.toList));rw[<-hd]at HN s5 HQ;clear hd;go_wp2_with(go_at_call 196;refine HN.mono ?_;rintro e X⟨rfl,hX⟩;have HX:=aa (ax nX.out hX);clear hX);go_round;case rel=>exact⟨i+1,by omega,by go_num,by rw[<-HQ.out],HX⟩
      case measure=>simp[intOf];omega
    .have k2':¬(kd:Int)=2:=by omega
     rw[if_neg k2]at pS;by_cases k3:kd=3
     .as_aux_lemma=>
       subst k3;have hp2:pt<=65535:=by omega
       have s5:=yv (show ip<18446744073709551616 by omega);have Rk:=yv (show pt<18446744073709551616 by omega);have HN:=fun X hX=>NZ ip (by omega) X hX;have HI:=fun X hX=>CL pt (by omega) X hX;have HQ:=aa (show TB++(⟨#[32]⟩++bs (aQ ip)++⟨#[58]⟩++bs (aQ pt))=bs (gY c v (i+1))by rw[HS.out,pS.out,if_pos J,CO.out,show(⟨#[32]⟩:ByteArray)=bs [32]from J,show(⟨#[58]⟩:ByteArray)=bs [58]from J,b7,b7,b7,b7]);obtain⟨d,hd⟩:=af (bs (aQ ip));obtain⟨f,M⟩:=af (bs (aQ pt));rw[<-hd]at HN s5 HQ;rw[<-M]at HI Rk HQ;clear hd M;obtain⟨W2,ex,k9,yK,hx2⟩:=eN wr #[ad p_,I aj ip,I R pt] 71;rw[<-ex]at nX j3 UR;have y1:=hx2 1;have y2:=hx2 2;simp only[cK,cT,c7]at y1 y2;clear hx2 yK k9;have g1:=aJ y1;have g2:=aJ y2;have pR:∀d' os,ap ae 135 #[I ah ip] (grow (redrawn W2 d') os) fun e bF=>e=aq (ad d)/\∃p:eh,bF=grow (redrawn W2 p.d) p.os:=fun d' os=>fU (HN _ (j3.out.au (cN W2 d' os)).oR);have mz:∀d' os,ap ae 60 #[I R pt] (grow (redrawn W2 d') os) fun e bF=>e=aq (ad f)/\∃p:eh,bF=grow (redrawn W2 p.d) p.os:=fun d' os=>fU (HI _ (j3.out.au (cN W2 d' os)));have lr:=aa ex;clear HN HI ex;go_wp2_with fail;rw[<-lr.out];clear lr;refine fI (by kernel_rfl) (by kernel_rfl) ?_;repeat(go_big_quiet_step(first|(go_at_call 135;exact pR _ _)|(go_at_call 60;exact mz _ _)))
       refine e6 ?_;intro _ bT;obtain⟨⟨So,OB⟩,bY⟩:=bT;subst bY;have HX:=aa (ax nX.out (cN W2 So OB));go_wp2;go_round;case rel=>exact⟨i+1,by omega,by go_num,by rw[<-HQ.out],HX⟩
       case measure=>simp[intOf];omega
     .as_aux_lemma=>
       have k3':¬(kd:Int)=3:=by omega
       rw[if_neg k3]at pS;have HQ:=aa (show TB=bs (gY c v (i+1))by rw[HS.out,pS.out,List.append_nil,CO.out]);go_wp2;go_round;case rel=>exact⟨i+1,by omega,by go_num,by rw[<-HQ.out],nX⟩
       case measure=>simp[intOf];omega
  .as_aux_lemma=>
    obtain rfl:i=4:=by omega
    have HX:=aa (ax S.out kA.out);obtain⟨TB,tB⟩:=af (bs (gY c v 4));rw[<-tB];have CO:=aa tB;clear tB;go_wp2;go_ret;exact⟨by rw[<-CO.out];rfl,HX.out⟩
theorem Nr:(ae.info? 103).map (·.size)=U 21:=by kernel_rfl
set_option maxHeartbeats 4000000 in set_option maxRecDepth 20000 in theorem ahR(e:EN)(bh:Dq e)(w:ac)(hE:EV w):ap ae 107 #[.agg (gE e)] w fun x w'=>x=aq (ad (bs (gV e)))/\RowKit.Below w.heap.size w w':=by
 obtain⟨V,hV,hB,cP,hx⟩:=eN w (gE e) 103;have xA:=aa (show V.heap[w.heap.size]?=U (.cells (gE e) 103 (0,0))by rw[hV];exact a7 w _);have vV:=fun h2 h3 X hX=>ai7 e bh h2 h3 X hX;have HE:=aa (hE.au hB);have k0:V.cell? ⟨w.heap.size,0,ab⟩=U (I R (e.aF:Nat)):=hx 0;have k1:V.cell? ⟨w.heap.size,1,ab⟩=U (I R (e.cg:Nat)):=hx 1;have k3:V.cell? ⟨w.heap.size,3,ab⟩=U (I aj e.call.nr):=hx 3;have AL:V.cell? ⟨w.heap.size,20,ab⟩=U (I R e.aU):=hx 20;have lF:=R9 e;have q:=bh.cg;have h2:=bh.kl.nr;have h3:=bh.aU;have d1:=yv (show e.cg<18446744073709551616 by omega);have d2:=yv (show e.call.nr<18446744073709551616 by omega);have HI:=fun(n:Nat)(h:n<=1000)X(hX:EV X)=>CL n (by omega) X hX;have HN:=fun X(hX:EV X)=>NZ e.call.nr (by omega) X hX.oR;have ff:=aa (fun(h2:e.aF≠2)(h3:e.aF≠3)=>IE e.call bh.kl e.aG bh.vs (bh.aB h2 h3) 4);have HW:=aa (show gV e=_ from J);unfold gV at HW;obtain⟨bd,hR⟩:=af (gV e);rw[<-hR]at⊢;have HR:=aa hR;obtain⟨br,hA⟩:=af (gE e);rw[<-hA]at hV xA vV lF⊢;obtain⟨c,H⟩:=af e.call;have bc:=aa (show bs bd=bs (aQ e.cg)++bs [32]++bs (aQ c.nr)++bs [32]++bs (if e.aF=2 then[114,101,102,117,115,101,100,32]++aQ e.aU.toNat else if e.aF=3 then[107,105,108,108,101,100]else[100,111,110,101]++gY c e.aG 4)by rw[HR.out,H,b7,b7,b7,b7];rfl);rw[<-H]at vV ff k3 h2 d2 HN;obtain⟨kd,fg⟩:=af e.aF;obtain⟨th,sn⟩:=af e.cg;obtain⟨ut,F5⟩:∃n:Nat,e.aU=n:=⟨e.aU.toNat,by omega⟩;obtain⟨vs,j9⟩:=af e.aG;rw[F5]at AL h3 bc;rw[Int.toNat_natCast]at bc;rw[<-fg]at k0 vV bc ff;rw[<-sn]at k1 q d1 bc;rw[<-j9]at vV bc ff;obtain⟨D1,Gt⟩:=af (bs (aQ th));obtain⟨D2,FZ⟩:=af (bs (aQ c.nr));have fd:=HI th (by omega);rw[<-Gt]at fd d1 bc;rw[<-FZ]at HN d2 bc;have S:=aa hB;clear hR hA H fg sn F5 j9 Gt FZ bh hE hx hB HW HR;have g1:=aJ k1;have g3:=aJ k3;have mz:∀d os,ap ae 60 #[I R th] (grow (redrawn V d) os) fun e bF=>e=aq (ad D1)/\∃p:eh,bF=grow (redrawn V p.d) p.os:=fun d os=>fU (fd _ (HE.out.au (cN V d os)));have pR:∀d os,ap ae 135 #[I ah c.nr] (grow (redrawn V d) os) fun e bF=>e=aq (ad D2)/\∃p:eh,bF=grow (redrawn V p.d) p.os:=fun d os=>fU (HN _ (HE.out.au (cN V d os)));go_enter func107,ntmps107;go_wp2_with fail;rw[<-hV];clear hV fd HN;refine fI (by kernel_rfl) (by kernel_rfl) ?_;repeat(go_big_quiet_step(first|(go_at_call 60;exact mz _ _)|(go_at_call 135;exact pR _ _)))
 refine e6 ?_;intro _ bT;obtain⟨⟨dq,bJ⟩,bY⟩:=bT;subst bY;have bb:=cN V dq bJ;obtain⟨W1,dU⟩:=af (grow (redrawn V dq) bJ);rw[<-dU]at bb⊢;replace k0:=ao bb k0;replace AL:=ao bb AL;have ai':=aa ((bb.block _ cP).trans xA.out);have Cf:=aa (HE.out.au bb);have dw:=aa (ax S.out bb);clear dU bb g1 g3 mz pR k1 k3 xA;have hT:(D1++⟨#[32]⟩++D2++⟨#[32]⟩).size<=100:=by simp only[ml];show D1.size+1+D2.size+1<=100;omega
 replace bc:=bc.out;rw[show bs [32]=⟨#[32]⟩from J]at bc;obtain⟨T,xH⟩:=af (D1++⟨#[32]⟩++D2++⟨#[32]⟩);rw[<-xH]at hT bc;have lC:=aa xH;replace bc:=aa bc;clear xH;by_cases c2:kd=2;.as_aux_lemma=>subst c2;have d3:=yv (show ut<18446744073709551616 by omega);have Ia:=HI ut (by omega);have HQ:=aa (show T++⟨#[114,101,102,117,115,101,100,32]⟩++bs (aQ ut)=bs bd by rw[bc.out,if_pos J,<-b7,xj];rfl);obtain⟨Vv,jy⟩:=af (bs (aQ ut));rw[<-jy]at Ia d3 HQ;rw[lC.out]at HQ hT;clear jy HI vV bc ff lC;go_wp2_with(go_at_call 60;refine(Ia _ Cf.out).mono ?_;rintro x X⟨rfl,hX⟩;have HX:=aa (ax dw.out hX);clear hX);go_ret;exact⟨by rw[<-HQ.out];rfl,HX.out⟩
 have vd:¬(kd:Int)=2:=by omega
 by_cases c3:kd=3;.as_aux_lemma=>subst c3;have HQ:=aa (show T++⟨#[107,105,108,108,101,100]⟩=bs bd by rw[bc.out,if_neg (by omega),if_pos J];rfl);rw[lC.out]at HQ hT;clear HI vV bc ff lC;go_wp2;go_ret;exact⟨by rw[<-HQ.out];rfl,dw.out⟩
 have c3':¬(kd:Int)=3:=by omega
 have hl:=ff.out c2 c3;have d3:(bs (gY c vs 4)).size<=12000:=by rw[ct];omega
 replace vV:=vV c2 c3;have HQ:=aa (show T++⟨#[100,111,110,101]⟩++bs (gY c vs 4)=bs bd by rw[bc.out,if_neg c2,if_neg c3,<-b7,xj];rfl);obtain⟨Vv,jy⟩:=af (bs (gY c vs 4));rw[<-jy]at vV d3 HQ;rw[lC.out]at HQ hT;have L:=ai'.out;clear jy HI bc ff lC hl;go_wp2_with(first|(refine wpList_load_row J 103 (.tmp 1) J w.heap.size J 103 br (0,0) _ L underlying103 J (by rw[lF];exact Nr) ?_)|(go_at_call 148;refine(vV _ Cf.out).mono ?_;rintro x X⟨rfl,hX⟩;have HX:=aa (ax dw.out hX);clear hX));go_ret;exact⟨by rw[<-HQ.out];rfl,HX.out⟩
end Go.Proofs.YtefdakbahplnbaaGreatDoor
namespace Go.Proofs.YtefdakbahplnbaaGreatDoor
open Go.RowKit
theorem ag_{W:ac}{base e n g cap:Nat}{xs:List ag}(h:W.ownsRow base e 1 (ak (U ⟨g,0,ab⟩) n cap) n xs)(i:Nat)(v:ag):(W.setCell ⟨g,i,ab⟩ v).ownsRow base e 1 (ak (U ⟨g,0,ab⟩) n cap) n (xs.set i v):=by
 obtain⟨q,h2⟩:=h;refine⟨by rw[List.length_set];exact q,?_⟩;rcases h2 with⟨h2,_⟩|⟨Df,Nf,co,h2,h3,eV,h4,h5,h6,h7⟩;.cases h2
 .cases h2;rw[cJ _ _ i _ _ _ _ eV];refine .inr ⟨g,cap,_,J,h3,setRow_heap _ _ _ _ _ _ eV,h4,h5,by rw[Array.size_setIfInBounds];exact h6,?_⟩;rw[Array.toList_setIfInBounds,List.take_set,h7]
theorem ak8{W:ac}{base e n g cap:Nat}{xs:List ag}(h:W.ownsRow base e 1 (ak (U ⟨g,0,ab⟩) n cap) n xs)(i:Nat):W.frozen? ⟨g,i,ab⟩=false:=by
 rcases h.2 with⟨h2,_⟩|⟨Df,Nf,co,h2,h3,eV,_⟩;.cases h2
 .cases h2;exact frozen_of_row _ _ i _ _ eV
theorem adJ(k:Nat)(h:k<16):((⟨#[48,49,50,51,52,53,54,55,56,57,97,98,99,100,101,102]⟩:ByteArray)[k]'h).toNat=(tu k).toNat:=congrArg UInt8.toNat (Qg (k:=k) (aI:=(k:Int)) J h)
theorem mq{W:ac}{base e n g cap:Nat}{xs:List ag}(h:W.ownsRow base e 1 (ak (U ⟨g,0,ab⟩) n cap) n xs){i:Nat}{v:ag}(hv:xs[i]?=U v):W.cell? ⟨g,i,ab⟩=U v:=by have:=h.cells (g:=g) J i v hv;rwa[show(⟨g,0,ab⟩:Addr).add i=⟨g,i,ab⟩by unfold Addr.add;split<;>simp_all]at this
def xw(x k:Nat):Int:=if 0<=oS x/\oS x<k then oS x else-1
theorem ak4:∀k:Fin 16,∀x:Fin 256,decide ((tu k.val).toNat=x.val)=decide (oS x.val=k.val):=by decide+kernel
theorem aoP:∀x:Fin 256,oS x.val<16:=by decide+kernel
theorem aoq(x:Nat)(h:x<256):xw x 16=oS x:=by
 have q:=aoP ⟨x,h⟩;have h2:-1<=oS x:=by
  unfold oS;repeat' split
  all_goals omega
 simp only at q;unfold xw;split<;>omega
def Iy(bd:Option W8)(l:W8)(i:Nat)(dM:W8):Prop:=(i%2=0/\dM.length=i/2/\bd=(iG (l.drop i)).map (dM++·))\/(i%2=1/\∃(r:W8)(a:UInt8)(x:Nat),oL a=U x/\dM=r++[bB (16*x)]/\r.length=i/2/\bd=(iG (a::l.drop i)).map (r++·))
theorem Iy.len{bd:Option W8}{l:W8}{i:Nat}{dM:W8}(h:Iy bd l i dM):dM.length<=i:=by
 rcases h with⟨_,h,_⟩|⟨_,r,a,x,_,rfl,h,_⟩;.omega
 .rw[cl,h];show _+1<=_;omega
set_option maxHeartbeats 2000000 in set_option maxRecDepth 20000 in theorem aho(B:ByteArray)(N:B.size<=400)(w:ac):ap ae 20 #[ad B] w fun e w'=>e=aq (az #[ad (bs ((iG B.data.toList).getD [])),aH (iG B.data.toList).isSome])/\Below w.heap.size w w':=by
 obtain⟨bd,hR⟩:=af (iG B.data.toList);rw[<-hR];have Hd:zc (B.size:Int) 2=((B.size%2:Nat):Int):=J;by_cases ho:B.size%2=1
 .have m1:zc (B.size:Int) 2=1:=by omega
  obtain rfl:bd=ab:=hR.trans (TG _ (by rw[<-dy];exact ho));clear Hd ho hR;go_enter func20,ntmps20;go_wp2;go_ret2;exact⟨J,aS _ _⟩
 have m1:zc (B.size:Int) 2=0:=by omega
 have gD:=aa (show B.size%2=0 by omega);have HR:=aa hR;clear Hd ho hR;go_enter func20,ntmps20;go_wp2;go_loopw[4,5](fun V aL wr=>∃(i:Nat)(dM:W8),i<=B.size/\aL=I R i/\Hid (Iy bd B.data.toList i dM)/\Hid (wr.ownsRow w.heap.size 5 1 V dM.length (ic dM))/\Hid (Below w.heap.size w wr))(fun _ aL _=>B.size-(intOf aL).toNat);case atStart=>exact⟨0,[],by omega,J,aa (.inl ⟨J,J,by rw[HR.out];simp⟩),aa (World.ownsRow_nil _ _ _ _),aa (aS _ _)⟩
 case round=>
  obtain⟨i,dM,hi,rfl,HA,HO,S⟩:=hrel;clear HR;by_cases am:i<B.size
  .have hl:(i:Int)<B.size:=by omega
   have jM:(0:Int)<=i:=by omega
   have yL:=cd B i am;have HD:=aa (AI B i am);obtain⟨x,hx⟩:=af (an B i);have hx2:x<256:=by rw[hx];exact ea _ _
   rw[<-hx]at yL HD;have Lr:=aa (aoq x hx2);have J0:=aa (fun(k:Nat)(z:k<16)=>ak4 ⟨k,z⟩ ⟨x,hx2⟩);obtain⟨QD,QZ⟩:=af wr;rw[<-QZ]at HO S;have VU:=aa QZ;clear hx QZ;go_wp2_with fail;go_loopw[6,7](fun Kf K w'=>∃k:Nat,k<=16/\K=I R k/\Kf=I R (xw x k)/\∃n,w'=QD.drewN n)(fun _ K _=>16-(intOf K).toNat);case atStart=>exact⟨0,by omega,J,by unfold xw;rw[if_neg (by omega)],0,VU.out.symm⟩
   case round=>
    obtain⟨k,z,rfl,rfl,n,rfl⟩:=hrel;by_cases zG:k<16
    .as_aux_lemma=>
      have Ap:(k:Int)<16:=by omega
      obtain⟨al,hy⟩:=af (tu k).toNat;have e1:=adJ k zG;have G:=J0.out k zG;rw[<-hy]at e1 G;clear hy;by_cases hh:oS x=k
      .have HU:=aa (show xw x (k+1)=k by unfold xw;rw[if_pos (by omega)];exact hh);obtain rfl:al=x:=by rw[decide_eq_true hh]at G;simpa using G
       clear G hh J0 Lr;go_wp2_with fail;go_quiet(fail);go_wp2;go_round;case rel=>exact⟨k+1,by omega,by go_num,by rw[HU.out],n+nq,J⟩
       case measure=>simp[intOf];omega
      .have HU:=aa (show xw x (k+1)=xw x k by unfold xw;split<;>split<;>omega);have bo:¬(al:Int)=x:=by
        rw[decide_eq_false hh]at G;have:¬al=x:=by simpa using G
        omega
       clear G hh J0 Lr;go_wp2_with fail;go_quiet(fail);go_wp2;go_round;case rel=>exact⟨k+1,by omega,by go_num,by rw[HU.out],n+nq,J⟩
       case measure=>simp[intOf];omega
    .have Ap:¬(k:Int)<16:=by omega
     obtain rfl:k=16:=by omega
     rw[Lr.out];have rl:=aa (show(QD.drewN n).ownsRow w.heap.size 5 1 u4 dM.length (ic dM)from HO.out);have lE:=aa (jq S.out n);obtain⟨E',Fm⟩:=af (QD.drewN n);rw[<-Fm]at rl lE⊢;have yZ:=aa (O3 x hx2);obtain⟨d,hd⟩:=af (oS x);rw[<-hd]at yZ⊢;have jN:=HA.out.len;have it:=lE.out.size;clear Fm hd HO S Lr J0 yL VU zG;cases hv:oL (bB x)with
      |none=>
       as_aux_lemma=>
        have hdl:d<0:=by have:=yZ.out;rw[hv]at this;simp only at this;omega
        obtain rfl:bd=ab:=by
         have he:=gD.out;rcases HA.out with⟨q,h2,h3⟩|⟨q,r,a,al,ha,_,_,h3⟩;.rw[h3,HD.out,AI B (i+1) (by omega),Nv _ (.inl hv)];rfl
         .rw[h3,HD.out,Nv _ (.inr hv)];rfl
        go_wp2;go_ret2;exact⟨J,lE.out⟩
      |some al=>
       have hdy:d=al:=by have:=yZ.out;rw[hv]at this;exact this
       have hy2:=J1 hv;have hdl:¬d<0:=by omega
       have XC:zc (i:Int) 2=((i%2:Nat):Int):=J;have Er:Int.tdiv (i:Int) 2=((i/2:Nat):Int):=J;subst hdy;rcases HA.out with⟨q,h2,h3⟩|⟨q,r,a,aI,ha,rfl,h2,h3⟩
       .as_aux_lemma=>
         have m2:zc (i:Int) 2=0:=by omega
         have HN:=aa (show Iy bd B.data.toList (i+1) (dM++[bB (16*al)])from .inr ⟨by omega,dM,bB x,al,hv,J,by omega,by rw[h3,HD.out]⟩);have lw:16*al<256:=by omega
         have HW:=aa (show aM.wrap (16*(al:Int))=((16*al:Nat):Int)by rw[acK];omega);obtain⟨c,H⟩:=af (16*al);rw[<-H]at HN lw HW;have sh:=HW.out;clear XC Er q h3 HA HD yZ hv H HW;go_wp2_with(at_builtin;(refine aaj J _ _ J w.heap.size u4 dM ?_ ?_ E'.heap.size [bB c] #[I aM c] ?_ ?_ ?_ ?_ ?_ ?_ ?_);(.rfl);(.exact rl.out.alloc _);(.rfl);(.exact a7 _ _);(.rw[TE lw]);(.omega);(.simp);(.simp;omega);intro v2 w2 dA hg2);have l4:=aa ((lE.out.alloc it _).grown hg2 (by simp;omega) fun k z=>(rl.out.lt k z).1);have xW:=aa dA;clear hg2 dA;go_round;case rel=>exact⟨i+1,dM++[bB c],by omega,by go_num,HN,xW,l4⟩
         case measure=>simp[intOf];omega
       .as_aux_lemma=>
         have m2:¬zc (i:Int) 2=0:=by omega
         have m3:(i:Int)%2=1:=by omega
         have dz:=J1 ha;have u:0<(r++[bB (16*aI)]).length:=by simp
         obtain⟨g,cap,rfl⟩:=Go.Joins.ownsRow_form rl.out u;have cY:(r++[bB (16*aI)]).length=i/2+1:=by rw[cl,h2];rfl
         have qP:E'.cell? ⟨g,i/2,ab⟩=U (I aM ((16*aI:Nat):Int)):=mq rl.out (by unfold ic;rw[List.getElem?_map,<-h2,List.getElem?_append_right (aA _),zd];simp[Nat.mod_eq_of_lt (show 16*aI<2^8 by omega)]);have dn:=ak8 rl.out (i/2);obtain⟨c,H⟩:=af (16*aI+al);have HN:=aa (show Iy bd B.data.toList (i+1) (r++[bB c])from .inl ⟨by omega,by rw[cl,h2];show _+1=_;omega,by rw[h3,HD.out,Ur _ _ ha hv,H]⟩);have xW:=aa (show(E'.setCell ⟨g,i/2,ab⟩ (I aM c)).ownsRow w.heap.size 5 1 (ak (U ⟨g,0,ab⟩) (i/2+1) cap) (r++[bB c]).length (ic (r++[bB c]))by have:=ag_ (by rw[cY]at rl;exact rl.out) (i/2) (I aM c);rw[show(ic (r++[bB (16*aI)])).set (i/2) (I aM c)=ic (r++[bB c])by rw[L8,L8,<-h2,<-TE (show c<256 by omega),show r.length=(ic r).length from(List.length_map _).symm,List.set_append_right _ _ (aA _),zd];rfl]at this;rw[cl,h2];exact this);have l4:=aa (show Below w.heap.size w (E'.setCell ⟨g,i/2,ab⟩ (I aM c))from(b4.below lE.out (rl.out.lt g J).1 it (b4.set g _ _ _)));have dF:aM.wrap (al:Int)=al:=by rw[acK];omega
         have c_:aM.wrap (((16*aI:Nat):Int)+al)=c:=by rw[acK];omega
         obtain⟨apQ,wT⟩:=af (16*aI);rw[<-wT]at qP c_;have Eq:i/2<i/2+1:=Nat.lt_succ_self _;obtain⟨h,hh⟩:=af (i/2);rw[cY];rw[<-hh]at qP dn xW l4 Er Eq⊢;have hh0:(h:Int)<(h:Int)+1:=by omega
         have hh1:h<=400:=by omega
         have hh2:(i:Int)/2=h:=by omega
         clear rl cY XC q h2 h3 HA HD yZ hv ha u H wT hh;go_wp2;go_round;case rel=>exact⟨i+1,r++[bB c],by omega,by go_num,HN,xW,l4⟩
         case measure=>simp[intOf];omega
  .as_aux_lemma=>
    have hl:¬(i:Int)<B.size:=by omega
    obtain rfl:i=B.size:=by omega
    have j0:=GQ HO.out;obtain rfl:bd=U dM:=by
     rcases HA.out with⟨_,_,h⟩|⟨h,_⟩;.rw[h,List.drop_eq_nil_of_le (by rw[<-dy];omega)];simp[iG]
     .have:=gD.out;omega
    clear HA HO;go_wp2;go_ret2;exact⟨J,S.out⟩
theorem RG:∃i,ae.info? 5=U i/\i.zero=U (I aM 0)/\i.size=1/\i.bytes=1:=by
 have hz:(ae.info? 5).map (·.zero)=U (U (I aM 0)):=by kernel_rfl
 have F:(ae.info? 5).map (·.size)=U 1:=by kernel_rfl
 have hb:(ae.info? 5).map (·.bytes)=U 1:=by kernel_rfl
 cases N:ae.info? 5 with
  |none=>rw[N]at F;simp at F
  |some i=>rw[N]at hz F hb;simp at hz F hb;exact⟨i,J,hz,F,hb⟩
theorem aki(w:ac):(Instr.makeSlice 134 (I R 16) (I R 16)).run ae w= .ok (ak (U ⟨w.heap.size,0,ab⟩) 16 16) (w.alloc (.cells #[I aM 0,I aM 0,I aM 0,I aM 0,I aM 0,I aM 0,I aM 0,I aM 0,I aM 0,I aM 0,I aM 0,I aM 0,I aM 0,I aM 0,I aM 0,I aM 0] 5)):=by
 obtain⟨i,hi,hz,F,hb⟩:=RG;have L:=run_make (P:=ae) w 134 5 i _ underlying134 hi hz R R 16 16 (by omega) (by omega) (by rw[hb];omega) (by omega);have e:madeCells (I aM 0).cells 16=#[I aM 0,I aM 0,I aM 0,I aM 0,I aM 0,I aM 0,I aM 0,I aM 0,I aM 0,I aM 0,I aM 0,I aM 0,I aM 0,I aM 0,I aM 0,I aM 0]:=by kernel_rfl
 rw[F,show Int.toNat 16*1=16 from J,e]at L;exact L
theorem aep(w:ac)(ip aB k m:Nat)(z:k<4):((w.alloc (.cells (kS ip aB k) 5)).drewN m).setCell ⟨w.heap.size,4+k,ab⟩ (I aM (fS ip k:Nat))=(w.alloc (.cells (kS ip aB (k+1)) 5)).drewN m:=by have h:((w.alloc (.cells (kS ip aB k) 5)).drewN m).heap[w.heap.size]?=U (.cells (kS ip aB k) 5 (0,0)):=a7 w _;rw[cJ _ _ (4+k) _ _ _ _ h,Yz ip aB k z];exact congrArg (World.drewN · m) (World.setRow_alloc_new w _ _ _)
theorem alf(w:ac)(ip:Nat)(bt:ip<4294967296)(aB:Nat)(hp:aB<=65535)(m:Nat):(convert 134 9 (ak (U ⟨w.heap.size,0,ab⟩) 16 16)).run ae ((w.alloc (.cells (kS ip aB 4) 5)).drewN m)= .ok (ad ⟨(iI ip aB).toArray⟩) ((w.alloc (.cells (kS ip aB 4) 5)).drewN m):=by refine run_convert_bytes_back (P:=ae) _ 134 9 5 ⟨w.heap.size,0,ab⟩ 16 (iI ip aB) underlying134 underlying5 underlying9 fun j hj=>?_;have h:((w.alloc (.cells (kS ip aB 4) 5)).drewN m).heap[w.heap.size]?=U (.cells (kS ip aB 4) 5 (0,0)):=a7 w _;rw[show(⟨w.heap.size,0,ab⟩:Addr).add j=⟨w.heap.size,j,ab⟩by simp[Addr.add];omega,aT _ _ j _ _ _ h,ach ip bt aB hp];simp[hj]
set_option maxRecDepth 10000 in theorem aak(ip:Nat)(bt:ip<4294967296)(aB:Nat)(hp:aB<=65535)(w:ac):ap ae 118 #[I aj ip,I R aB] w fun e w'=>e=aq (ad ⟨(iI ip aB).toArray⟩)/\Below w.heap.size w w':=by
 have RY:=aki w;go_enter func118,ntmps118;go_wp2;go_loopw[6](fun i w'=>∃k m:Nat,k<=4/\i=I R k/\w'=(w.alloc (.cells (kS ip aB k) 5)).drewN m)(fun i _=>4-(intOf i).toNat);case atStart=>exact⟨0,0,by omega,J,J⟩
 case round=>
  obtain⟨k,m,z,rfl,rfl⟩:=hrel;by_cases am:k<4
  .have hg:=S' ip aB k am;have HQ:=aa (show(ip:Int)/2^(24-8*k)%256=((fS ip k:Nat):Int)by unfold fS;simp);go_wp2;go_round;case rel=>exact⟨k+1,m,by omega,by go_num,by rw[HQ.out];exact aep w ip aB k m am⟩
   case measure=>simp[intOf];omega
  .obtain rfl:k=4:=by omega
   have j0:=alf w ip bt aB hp m;go_wp2;go_ret;exact⟨J,jq ((aS _ _).alloc (aA _) _) _⟩
def yE:Option (Nat×Nat)->ag|ab=>az #[I aj 0,I R 0,aH false]|U (ip,p)=>az #[I aj ip,I R p,aH true]
theorem acS(s:ByteArray)(k:Nat)(z:k<4):(gR s k:Int)*256%4294967296+(an s (4+k):Int)=((gR s (k+1):Nat):Int):=by have q:=DM s k;have h2:=ea s (4+k);have h3:gR s k<16777216:=Nat.lt_of_lt_of_le q (Nat.pow_le_pow_right (n:=256) (j:=3) (by decide) (by omega));show _=((gR s k*256+an s (4+k):Nat):Int);omega
theorem Qt(s:ByteArray)(w:ac):ap ae 115 #[ad s] w fun e w'=>e=aq (yE (gS s))/\Below w.heap.size w w':=by
 by_cases F:s.size=16
 .have b2:=cd s 2 (by omega);have b3:=cd s 3 (by omega);have l2:=ea s 2;have mS:=ea s 3;go_enter func115,ntmps115;go_wp2;go_quiet(fail);go_wp2;go_loopw[7,6](fun i x w'=>∃k m:Nat,k<=4/\i=I R (4+(k:Int))/\x=I aj (gR s k)/\w'=w.drewN m)(fun i _ _=>8-(intOf i).toNat);case atStart=>exact⟨0,nq,by omega,J,J,J⟩
  case round=>
   obtain⟨k,m,z,rfl,rfl,rfl⟩:=hrel;by_cases am:k<4
   .have mK:=cd s (4+k) (by omega);have uj:=ea s (4+k);have HQ:=aa (acS s k am);have lt4:(4:Int)+k<8:=by omega
    go_wp2;go_round;case rel=>exact⟨k+1,m,by omega,by go_num,by rw[HQ.out],J⟩
    case measure=>simp[intOf];omega
   .obtain rfl:k=4:=by omega
    have hp:an s 2*256+an s 3<=65535:=by omega
    have hi:gR s 4<4294967296:=DM s 4;have G:∀V,ap ae 118 #[I aj (gR s 4),I R (256*(an s 2:Int)+(an s 3:Int))] V fun e w'=>e=aq (ad ⟨(iI (gR s 4) (nT s)).toArray⟩)/\Below V.heap.size V w':=fun V=>by have h:=aak (gR s 4) hi (nT s) hp V;rw[show((nT s:Nat):Int)=256*(an s 2:Int)+(an s 3:Int)by unfold nT;omega]at h;exact h
    by_cases he:iI (gR s 4) (nT s)=s.data.toList
    .have HV:=aa (show yE (gS s)=az #[I aj (gR s 4),I R (nT s),aH true]by unfold gS;rw[if_pos ⟨F,he⟩];rfl);have HP:=aa (show((nT s:Nat):Int)=256*(an s 2:Int)+(an s 3:Int)by unfold nT;omega);have H:(iI (gR s 4) (nT s)==s.toList)=true:=by rw[tR,beq_iff_eq];exact he
     clear he;go_wp2_with(go_at_call 118;refine(G _).mono ?_;rintro e W⟨rfl,hW⟩);go_ret3;exact⟨by rw[HV.out,HP.out];rfl,T3 (jq (aS _ _) m) hW⟩
    .have HV:=aa (show yE (gS s)=az #[I aj 0,I R 0,aH false]by unfold gS;rw[if_neg (fun h=>he h.2)];rfl);have H:(iI (gR s 4) (nT s)==s.toList)=false:=by rw[tR,beq_eq_false_iff_ne];exact he
     clear he;go_wp2_with(go_at_call 118;refine(G _).mono ?_;rintro e W⟨rfl,hW⟩);go_ret3;exact⟨by rw[HV.out];rfl,T3 (jq (aS _ _) m) hW⟩
 .have HV:=aa (show yE (gS s)=az #[I aj 0,I R 0,aH false]by unfold gS;rw[if_neg (fun h=>F h.1)];rfl);have hb:((s.size:Int)!=16)=true:=by rw[bne_iff_ne];omega
  go_enter func115,ntmps115;go_wp2;go_ret3;exact⟨by rw[HV.out];rfl,aS _ _⟩
end Go.Proofs.YtefdakbahplnbaaGreatDoor
namespace Go.Proofs.YtefdakbahplnbaaGreatDoor
open Go.RowKit Mm
def I3(c:KL):Array ag:=#[I R 1,I aj c.ej,I aj c.nr,I ah c.a0,I ah c.bR,I ah c.a2,I ah c.a3,I aj c.ej,I aj c.nr,I ah c.a0,I ah c.bR,I ah c.a2,I ah c.a3,ad ⟨#[]⟩,ad ⟨#[]⟩,ad ⟨#[]⟩,ad ⟨#[]⟩,I R 0,ad ⟨#[]⟩,I aj 0,I R 0,ad ⟨#[]⟩,I aj 0,I R 0,ad ⟨#[]⟩,I aj 0,I R 0,ad ⟨#[]⟩,I aj 0,I R 0,ak ab 0 0]
theorem afn(c:KL):∀j,j<31->(I3 c).toList.getD j undef=cO (IZ c) (ak ab 0 0) j:=fun j hj=>by refine B8 (aE:=fun j=>(I3 c).toList.getD j undef=cO (IZ c) (ak ab 0 0) j) hj ?_ ?_ ?_ ?_ ?_ ?_ ?_ ?_ ?_ ?_ ?_ ?_ ?_ ?_ ?_ ?_ ?_ ?_ ?_ ?_ ?_ ?_ ?_ ?_ ?_ ?_ ?_ ?_ ?_ ?_ ?_<;>rfl
theorem abk(c:KL):(I3 c).all (·.oneCell')=true:=by simp[I3,Value.oneCell']
theorem adh{W:ac}(g:Nat)(n:Int)(c:KL)(M:¬(0<=n/\n<3)):ap ae 25 #[av (U ⟨g,0,ab⟩),I R n,cR c] W fun e w'=>e=aq (I R 1)/\Below W.heap.size W w':=by
 unfold cR bX;by_cases h0:n<0;.go_enter func25,ntmps25;go_wp2;go_ret;exact⟨J,ai _ _⟩
 .have h2:2<n:=by omega
  go_enter func25,ntmps25;go_wp2;go_ret;exact⟨J,ai _ _⟩
theorem aja{g:Nat}{P:PV}{d:bC}{E:Nat->ag}{y:ag}{W:ac}(n:Nat)(u:n<3)(c:KL)(N:(d.T n).phase=6)(h:DX g P d E y W):ap ae 25 #[av (U ⟨g,0,ab⟩),I R n,cR c] W fun e w'=>e=aq (I R 8)/\Below W.heap.size W w':=by
 have hX:=h.au (ai W (.cells (bX c) 68));have rU:¬(n:Int)<0:=by omega
 have j1:(0:Int)<=n:=by omega
 have j2:¬(2:Int)<n:=by omega
 have n9:(n:Int)<3:=by omega
 have cp:=hX.phase n u;rw[N]at cp;clear h N hX;unfold cR bX;unfold bX at cp;go_enter func25,ntmps25;go_wp2;go_ret;exact⟨J,ai _ _⟩
theorem ain{g:Nat}{P:PV}{d:bC}{E:Nat->ag}{y:ag}{W:ac}(n:Nat)(u:n<3)(c:KL)(N:(d.T n).phase≠0)(IB:(d.T n).phase≠6)(h:DX g P d E y W):ap ae 25 #[av (U ⟨g,0,ab⟩),I R n,cR c] W fun e w'=>e=aq (I R 7)/\Below W.heap.size W w':=by
 have hX:=h.au (ai W (.cells (bX c) 68));have rU:¬(n:Int)<0:=by omega
 have j1:(0:Int)<=n:=by omega
 have j2:¬(2:Int)<n:=by omega
 have n9:(n:Int)<3:=by omega
 have cp:=hX.phase n u;obtain⟨B,mH⟩:=af (d.T n).phase;rw[<-mH]at cp N IB;have apx:((B:Int)==6)=false:=by rw[beq_eq_false_iff_ne];omega
 have q0:(0:Int)<B:=by omega
 clear h mH hX N IB;unfold cR bX;unfold bX at cp;go_enter func25,ntmps25;go_wp2;go_ret;exact⟨J,ai _ _⟩
set_option maxHeartbeats 2000000 in set_option maxRecDepth 20000 in theorem agB{g:Nat}{P:PV}{d:bC}{E:Nat->ag}{y:ag}{W:ac}(n:Nat)(u:n<3)(c:KL)(N:(d.T n).phase=0)(h:DX g P d E y W):ap ae 25 #[av (U ⟨g,0,ab⟩),I R n,cR c] W fun e w'=>e=aq (I R 0)/\∃sv',DX g P (d.put n (IZ c)) sv' y w'/\bi g E y sv' y W w':=by
 have hX:=h.au (ai W (.cells (bX c) 68));have rU:¬(n:Int)<0:=by omega
 have j1:(0:Int)<=n:=by omega
 have j2:¬(2:Int)<n:=by omega
 have n9:(n:Int)<3:=by omega
 have cp:=hX.phase n u;rw[N]at cp;have hY:=hX.au (aS _ _).drew;have HY:=aa hY;obtain⟨zt,fC⟩:=af (I3 c);have da:=aa fC;have sn:=hY.Br n u zt (by rw[fC];rfl) (IZ c) J (fun j hj=>by rw[fC];exact afn c j hj);have ik:=aa sn.1;have gN:=aa ((bi.bk (g:=g) E y (ai W (.cells (bX c) 68))).trans ((bi.bk E y (aS _ _).drew).trans sn.2));clear h hX hY N fC sn;unfold cR bX;unfold bX at cp HY ik gN;go_enter func25,ntmps25;go_wp2_with fail;obtain⟨r,L⟩:=af W.heap.size;have hb:(W.alloc (.cells #[I aj c.ej,I aj c.nr,I ah c.a0,I ah c.bR,I ah c.a2,I ah c.a3] 68)).drew.heap[r]?=U (.cells #[I aj c.ej,I aj c.nr,I ah c.a0,I ah c.bR,I ah c.a2,I ah c.a3] 68 (0,0)):=by rw[L];exact a7 W _
 rw[<-L];obtain⟨X,B1⟩:=af (W.alloc (.cells #[I aj c.ej,I aj c.nr,I ah c.a0,I ah c.bR,I ah c.a2,I ah c.a3] 68));rw[<-B1]at hb HY ik gN;rw[<-B1];clear B1 L cp;have b_:=aT _ _ 0 _ _ _ hb;have b1:=aT _ _ 1 _ _ _ hb;have b2:=aT _ _ 2 _ _ _ hb;have b3:=aT _ _ 3 _ _ _ hb;have rW:=aT _ _ 4 _ _ _ hb;have pz:=aT _ _ 5 _ _ _ hb;simp only[cK,cT,c7]at b_ b1 b2 b3 rW pz;refine wp_region_any (by kernel_rfl) ?_;change wpAny _ _ _ _ _ _ _ (World.drew _);refine aW 0 (U 29) (av (U ⟨g,0,ab⟩)) ?_;try simp only[ar,LT]
 refine aW 1 (U 30) (I R n) ?_;try simp only[ar,LT]
 refine aW 5 (U 34) (av (U ⟨g,0,ab⟩)) ?_;try simp only[ar,LT]
 refine aW 6 (U 35) (av (U ⟨g,783,ab⟩)) ?_;try simp only[ar,LT]
 refine iV (i:=2) (j:=3) (by kernel_rfl) J J J J (fun K A=>?_) (fun K A=>?_)
 .go_simp;refine A _ _ ?_;clear A K;try simp only[ar,LT]
  refine aR 3 fun K A=>?_;go_simp;refine A _ _ ?_;clear A K;try simp only[ar,LT]
  refine aR 4 fun K A=>?_;refine Lv 76 _ J (U 33) J zt (by rw[da.out];first|kernel_rfl|rfl) ?_;refine A _ _ ?_;clear A K;try simp only[ar,LT]
  refine aR 7 fun K A=>?_;go_simp;refine A _ _ ?_;clear A K;try simp only[ar,LT]
  refine aR 8 fun K A=>?_;refine wp_store_mid (P:=ae) 76 _ _ J g (783+n*31) zt J J (by intro j hj;exact⟨by rw[HY.out.cell _ (by have Su:j<31:=(by rw[da.out]at hj;exact hj);omega) (.inr (by omega))];rfl,HY.out.b5 _⟩) (by rw[da.out];exact Nc) (by rw[da.out];exact abk c) ?_;refine A _ _ ?_;clear A K;try simp only[ar]
  refine wpAny_done (by kernel_rfl) ?_ _;go_wp2;go_ret;exact⟨J,_,ik.out,gN.out⟩
 .go_simp;refine A _ _ ?_;clear A K;try simp only[ar,LT]
  refine aR 2 fun K A=>?_;go_simp;refine A _ _ ?_;clear A K;try simp only[ar,LT]
  refine aR 4 fun K A=>?_;refine Lv 76 _ J (U 33) J zt (by rw[da.out];first|kernel_rfl|rfl) ?_;refine A _ _ ?_;clear A K;try simp only[ar,LT]
  refine aR 7 fun K A=>?_;go_simp;refine A _ _ ?_;clear A K;try simp only[ar,LT]
  refine aR 8 fun K A=>?_;refine wp_store_mid (P:=ae) 76 _ _ J g (783+n*31) zt J J (by intro j hj;exact⟨by rw[HY.out.cell _ (by have Su:j<31:=(by rw[da.out]at hj;exact hj);omega) (.inr (by omega))];rfl,HY.out.b5 _⟩) (by rw[da.out];exact Nc) (by rw[da.out];exact abk c) ?_;refine A _ _ ?_;clear A K;try simp only[ar]
  refine wpAny_done (by kernel_rfl) ?_ _;go_wp2;go_ret;exact⟨J,_,ik.out,gN.out⟩
end Go.Proofs.YtefdakbahplnbaaGreatDoor
