/- What the document's Say needs: lists that grow by one, lines that are none. -/
import Derived.Test.YtefdakbahplnbaaGreatDoorK33
import Derived.Test.YtefdakbahplnbaaGreatDoorK34
open Go.Proofs.Tryz
open And renaming intro->bQ
open Go renaming Calls->ap,Value->ag,World->ac,below_drewN->xp,cell_of_row->aT,heap_alloc_new->a7,wpAny_done->dH,wp_region_any->mj
open Go.Act renaming put->ar
open Go.Calls renaming quiet_of_same->pc
open Go.Ending renaming returned->aq
open Go.IntKind renaming i64->R,u32->aj,u64->ah,u8->aM,wrap->AX,wrap_i64->jP,wrap_u64->jQ
open Go.Proofs.Tryz renaming prog->ae
open Go.RowKit.Below renaming refl->aS
open Go.Value renaming int->I,pointer->av,slice->ak,string->ad,tuple->az
open Go.World renaming drew->ll,size_alloc->bA
open Int renaming toNat_natCast->d_
open List renaming length_append->cl,length_drop->pd,length_singleton->gH,mem_singleton->jB,take_length->sE
open Nat renaming add_assoc->oy,le_refl->aA,le_trans->bL,zero_le->oz
open Option renaming elim->T4,none->ab,some->U
open UInt8 renaming ofNat->bB
namespace Go.Proofs.YtefdakbahplnbaaGreatDoor
open Go.RowKit
theorem Yu{α:Type}{f:α->ag}{a_:Array Oper}{rest:List Oper}{o:Oper}{a:Act}{w:ac}{aE:Exit->Act->ac->Prop}(T t:TypeId)(hT:ae.underlying T=U (.slice t))(aI:ag)(hz:(ae.info? t).map (fun i=>(i.zero,i.size,i.bytes))=U (U aI,1,8))(dD:aI.cells.size=1)(M:∀x,(f x).oneCell'=true)(de:o.guard=ab)(s x:Operand)(ho:o.op= .call {callee:= .builtin .append,args:=#[s,x],argTypes:=#[T,T]})(base:Nat)(v:ag)(l:List α)(F:a.eval s=v)(cE:w.ownsRow base t 1 v l.length (l.map f))(g:Nat)(al:α)(hx:a.eval x=ak (U ⟨g,0,ab⟩) 1 1)(hg:w.heap[g]?=U (.cells #[f al] t (0,0)))(u:l.length<=1000)(pE:base<=w.heap.size)(h:∀v' w',w'.ownsRow base t 1 v' (l++[al]).length ((l++[al]).map f)->w.grownBy w' v.ownBlock->wpList ae a_ aE rest (a.put o.dst v') w'):wpList ae a_ aE (o::rest) a w:=by
 obtain⟨eq,d8,hi⟩:=Option.map_eq_some_iff.1 hz;simp only[Prod.mk.injEq]at hi;obtain⟨dh,dz,hz3⟩:=hi;refine wpList_append_own (P:=ae) w de s x T ho base t eq _ 1 8 hT d8 dh dz hz3 dD (by decide) v l.length (l.map f) F cE ⟨g,0,ab⟩ 1 1 [f al] hx J ?_ ?_ (by simp only[maxLen];omega) (by omega) pE ?_
 .intro j ay hu;have sv:(⟨g,0,ab⟩:Addr).add j=⟨g,j,ab⟩:=by unfold Addr.add;split<;>simp_all
  rw[sv,aT w g j _ _ _ hg,<-hu,List.getElem?_toArray]
 .intro ay hu;obtain rfl:=jB.1 hu;exact M al
 .intro v' w' q h2 _;rw[show l.map f++[f al]=(l++[al]).map f by simp,show l.length+1=(l++[al]).length by simp]at q;exact h v' w' q h2
theorem OJ{c:W8}{k:Nat}(h:lP c=U k):qF 2 c=if c=kf then 2 else(k:Int):=by unfold qF;rw[h]
theorem acQ(a x:W8):ta kf [a,x] 1=if cz a=true then(iG x).map (fun b=>(kf,[bW a],b))else ab:=by
 unfold ta;show(match jx [a]with|ab=>ab|U Q=>(lY kf [x]).map fun b=>(kf,Q,b))=_;have q:jx [a]=if cz a=true then U [bW a]else ab:=J;have h2:lY kf [x]=iG x:=by unfold lY;rw[if_pos J];rfl
 rw[q,h2];by_cases h:cz a=true;.rw[if_pos h,if_pos h]
 .rw[if_neg h,if_neg h]
theorem aea{c:W8}{r:List W8}{k:Nat}(h:lP c=U k)(hl:(r.length:Int)≠qF 2 c):nQ c r=ab:=by
 rw[OJ h]at hl;unfold nQ;rw[h];show(if r.length<k then ab else ta c r k)=ab;by_cases z:r.length<k;.rw[if_pos z]
 .rw[if_neg z];unfold ta;have hd:lY c (r.drop k)=ab:=by
   unfold lY;by_cases hp:c=kf
   .rw[if_pos hp];rw[if_pos hp]at hl;obtain rfl:k=1:=by rw[hp]at h;cases h;rfl
    have:(r.drop 1).length≠1:=by rw[pd];omega
    match L:r.drop 1,this with|[],_=>rfl|[x],h=>exact absurd J h|_::_::_,_=>rfl
   .rw[if_neg hp];rw[if_neg hp]at hl;rw[if_neg (fun e=>by have:=congrArg List.length e;rw[pd]at this;simp at this;omega)]
  rw[hd];split<;>rfl
theorem amr(a x:W8):nQ kf [a,x]=if cz a=true then(iG x).map (fun b=>(kf,[bW a],b))else ab:=acQ a x
theorem adZ{c:W8}{r:List W8}{k:Nat}(h:lP c=U k)(hp:c≠kf)(hl:r.length=k):nQ c r=(jx r).map fun Q=>(c,Q,[]):=by
 unfold nQ;rw[h];show(if r.length<k then ab else ta c r k)=_;rw[if_neg (by omega)];unfold ta;rw[show r.take k=r by rw[<-hl];exact sE,show r.drop k=[]by rw[<-hl];exact List.drop_length];have:lY c []=U []:=by unfold lY;rw[if_neg hp,if_pos J]
 rw[this];cases jx r<;>rfl
end Go.Proofs.YtefdakbahplnbaaGreatDoor
namespace Go.Proofs.YtefdakbahplnbaaGreatDoor
open Go.RowKit Mm
theorem DX.ahu{g:Nat}{P:PV}{d:bC}{E:Nat->ag}{y:ag}{W:ac}{n:Nat}{t0:DT}(h:DX g P (d.put n t0) E y W)(j:Nat)(u:n<3)(hj:j<31)(v:ag)(t:DT)(F:t.bP=t0.bP)(H:∀k,k<31->cO t (E n) k=if k=j then v else cO t0 (E n) k):DX g P (d.put n t) E y (W.setCell ⟨g,783+n*31+j,ab⟩ v):=by have q:=h.wg n j u hj v t (by rw[iK];exact F) (fun k z=>by rw[iK];exact H k z);rw[Bk]at q;exact q
theorem DX.TL{g:Nat}{P:PV}{d:bC}{E:Nat->ag}{y:ag}{W:ac}(h:DX g P d E y W)(n j:Nat)(u:n<3)(hj:j<31)(o:Nat)(ho:o=783+n*31+j)(v:ag)(t:DT)(F:t.bP=(d.T n).bP)(H:∀k,k<31->cO t (E n) k=if k=j then v else cO (d.T n) (E n) k):DX g P (d.put n t) E y (W.setCell ⟨g,o,ab⟩ v):=by subst ho;exact h.wg n j u hj v t F H
theorem DX.Rf{g:Nat}{P:PV}{d:bC}{E:Nat->ag}{y:ag}{W:ac}{n:Nat}{t0:DT}(h:DX g P (d.put n t0) E y W)(j:Nat)(u:n<3)(hj:j<31)(o:Nat)(ho:o=783+n*31+j)(v:ag)(t:DT)(F:t.bP=t0.bP)(H:∀k,k<31->cO t (E n) k=if k=j then v else cO t0 (E n) k):DX g P (d.put n t) E y (W.setCell ⟨g,o,ab⟩ v):=by subst ho;exact h.ahu j u hj v t F H
theorem alg{d:bC}{n:Nat}{t:DT}(F:t.bP=(d.T n).bP)(ha:t.b'=(d.T n).b')(aF:Nat)(aU:Int)(v:VS):gf n aF aU v (d.put n t)=gf n aF aU v d:=by rw[QR,QR,iK,F,ha];unfold bC.put;simp only[BI]
set_option maxHeartbeats 2000000 in set_option maxRecDepth 20000 in theorem adb{g:Nat}{P:PV}{d:bC}{E:Nat->ag}{y:ag}{W:ac}(n:Nat)(u:n<3)(h8:(d.T n).b'.nr<=8)(YR:(d.T n).a6<4)(nn:a1 (d.T n).b'.nr (d.T n).a6=2\/a1 (d.T n).b'.nr (d.T n).a6=3)(WF:((d.T n).cn (d.T n).a6).length<=40)(Ao:∀x,d.mem.ei x<256)(h:DX g P d E y W)(cQ:d.aX.length<=1000000)(im:yC (d.T n)):ap ae 81 #[av (U ⟨g,0,ab⟩),I R n] W (kw g P (At n d) E y W):=by
 have rU:¬(n:Int)<0:=by omega
 have j1:(0:Int)<=n:=by omega
 have j2:¬(2:Int)<n:=by omega
 have n9:(n:Int)<3:=by omega
 obtain⟨aY,tL⟩:=af (d.T n).a6;obtain⟨nr,b0⟩:=af (d.T n).b'.nr;obtain⟨rd,hf⟩:=af ((d.T n).cn aY);obtain⟨B,N⟩:=af (bs rd);obtain⟨j8,wn⟩:=af ((d.T n).dI aY);obtain⟨kd,fg⟩:=af (a1 nr aY);have fZ:aY<4:=by rw[tL];exact YR
 have cY:rd.length<=40:=by rw[hf,tL];exact WF
 rw[<-b0,<-tL,<-fg]at nn;rw[<-b0]at h8;have qs:B.size=rd.length:=by rw[N,ct]
 have k1:(0:Int)<=aY:=by omega
 have k2:(aY:Int)<4:=by omega
 have HH:=aa h;have y1:W.cell? ⟨g,783+n*31+17,ab⟩=U (I R (aY:Nat)):=by rw[h.th n 17 u (by omega),tL];rfl
 have y2:W.cell? ⟨g,783+n*31+13+aY,ab⟩=U (ad B):=by rw[oy (783+n*31),h.th n (13+aY) u (by omega),OF _ _ _ fZ,N,hf]
 have y3:W.cell? ⟨g,783+n*31+9+aY,ab⟩=U (I ah (j8:Nat)):=by rw[oy (783+n*31),h.th n (9+aY) u (by omega),Uy _ _ _ fZ,wn]
 have y4:W.cell? ⟨g,783+n*31+8,ab⟩=U (I aj (nr:Nat)):=by rw[h.th n 8 u (by omega),b0];rfl
 obtain⟨pk,dm⟩:=af (ey d.mem (ch j8 rd.length));have S:=fun X(hX:Below W.heap.size W X)=>(show ap ae 113 #[av (U ⟨g,3,ab⟩),I ah ((ch j8 rd.length:Nat):Int)] X fun e w'=>e=aq (vP (ey d.mem (ch j8 rd.length)))/\w'=X from Vr.ae_ (h.mem.au hX) (ch j8 rd.length) (Nat.mod_lt _ (by decide)));rw[<-dm]at S;have sh:AX ah ((j8:Int)+AX ah (B.size:Int))=((ch j8 rd.length:Nat):Int):=by rw[qs];unfold ch;rw[jQ,jQ];omega
 obtain⟨o7,gq⟩:∃x:Nat,x=ch j8 rd.length:=⟨_,J⟩;have HK:=fun w=>wC nr aY (by omega) fZ w;rw[<-fg]at HK;have w1:AX R (nr:Int)=nr:=by rw[jP]<;>omega
 have dx:=aa (show At n d=pk.elim (gf n 2 14 cb d) (fun b=>if kd=2 then(if b=0 then ua n {d.T n with aG:=aO (d.T n).aG aY ⟨B,((d.T n).aG aY).ip,((d.T n).aG aY).aB⟩} d else if rd.length=40 then gf n 2 36 cb d else d.put n {d.T n with cn:=aO (d.T n).cn aY (rd++[bB b])})else if(rd++[bB b]).length<16 then d.put n {d.T n with cn:=aO (d.T n).cn aY (rd++[bB b])}else match gS (bs (rd++[bB b]))with|ab=>gf n 2 22 cb d|U x=>ua n {d.T n with cn:=aO (d.T n).cn aY (rd++[bB b]),aG:=aO (d.T n).aG aY ⟨((d.T n).aG aY).bf,x.1,x.2⟩} d)by rw[dm,fg,b0,N,hf,wn,tL];unfold At ch;simp only;cases ey d.mem (((d.T n).dI (d.T n).a6+((d.T n).cn (d.T n).a6).length)%18446744073709551616)<;>rfl);have Fu:=aa dm;rw[<-gq]at S sh;have HQ:=aa N;have Jc:=aa Ao;have HN:=aa b0;have By:=aa qs;have rm:=aa tL;clear h tL hf wn fg dm gq YR WF N Ao b0 qs;go_enter func81,ntmps81;go_wp2_with fail;go_quiet(fail);obtain⟨X1,c5⟩:=af (W.drewN nq);have bb:Below W.heap.size W X1:=by rw[c5];exact xp (aS _ _) _
 replace y1:X1.cell? ⟨g,783+n*31+17,ab⟩=U (I R (aY:Nat)):=by rw[c5];exact y1
 replace y3:X1.cell? ⟨g,783+n*31+9+aY,ab⟩=U (I ah (j8:Nat)):=by rw[c5];exact y3
 replace y4:X1.cell? ⟨g,783+n*31+8,ab⟩=U (I aj (nr:Nat)):=by rw[c5];exact y4
 have df:=fun m=>S (X1.drewN m) (xp bb _);rw[<-c5];have dw:=aa bb;clear c5 nq y2 S bb;cases pk with
  |none=>
   as_aux_lemma=>
    unfold vP at df;simp only[T4]at df dx;go_wp2_with fail;go_quiet((go_at_call 113;exact pc (df _)));obtain⟨aK,hZ⟩:=af (X1.drewN nq);have qn:Below W.heap.size W aK:=by rw[hZ];exact xp dw.out _
    have HZ:=aa (HH.out.au qn);have mp:=aa (bi.bk (g:=g) E y qn);rw[<-hZ];clear hZ qn df y1 y3 y4;have HE:=BD n u 14 HZ.out cQ im;go_wp2_with fail;refine HE.mono ?_;rintro e w' hG;obtain⟨rfl,q⟩:=kw.nF mp.out hG;clear hG;go_wp2;go_end0;rw[dx.out];exact⟨J,q⟩
  |some fx=>
   as_aux_lemma=>
    unfold vP at df;simp only[T4]at df dx;have My:fx<256:=by
     have q:=Fu.out;unfold ey at q;split at q;.rw[Option.some.inj q];exact Jc.out _
     .cases q
    go_wp2_with fail;go_quiet((go_at_call 113;exact pc (df _)));obtain⟨aK,hZ⟩:=af (X1.drewN nq);have qn:Below W.heap.size W aK:=by rw[hZ];exact xp dw.out _
    have z1:aK.cell? ⟨g,783+n*31+17,ab⟩=U (I R (aY:Nat)):=by rw[hZ];exact y1
    have z4:aK.cell? ⟨g,783+n*31+8,ab⟩=U (I aj (nr:Nat)):=by rw[hZ];exact y4
    rw[<-hZ];clear hZ df y1 y3 y4 nq;rcases nn with gG|iw
    .as_aux_lemma=>
      have b2:((kd:Int)==2)=true:=by simpa using(show(kd:Int)=2 by omega)
      rw[if_pos gG]at dx;clear gG;go_wp2_with fail;go_quiet((go_at_call 47;exact pc (HK _)));obtain⟨Y,hY⟩:=af (aK.drewN nq);have lb:Below W.heap.size W Y:=by rw[hY];exact xp qn _
      have HZ:=aa (HH.out.au lb);have mp:=aa (bi.bk (g:=g) E y lb);rw[<-hY];clear hY qn lb z1 z4 nq HK w1 sh;have x_:=aa (HZ.out.au (aS _ _).drew);have DO:=aa (mp.out.trans (bi.bk E y (aS _ _).drew));by_cases l9:fx=0
      .as_aux_lemma=>
        have b_:((fx:Int)==0)=true:=by simpa using(show(fx:Int)=0 by omega)
        rw[if_pos l9]at dx;clear l9;have Fc:Y.drew.cell? ⟨g,783+n*31+17,ab⟩=U (I R (aY:Nat)):=by rw[x_.out.th n 17 u (by omega),rm.out];rfl
        have u18:Y.drew.cell? ⟨g,783+n*31+18+aY*3,ab⟩=U (ad ((d.T n).aG aY).bf):=by rw[oy (783+n*31),x_.out.th n (18+aY*3) u (by omega),(mB _ _ _ fZ).1]
        have f18:=x_.out.b5 (783+n*31+18+aY*3);have HW7:=aa (bQ (x_.out.TL n (18+aY*3) u (by omega) (783+n*31+18+aY*3) (by omega) (ad B) {d.T n with aG:=aO (d.T n).aG aY ⟨B,((d.T n).aG aY).ip,((d.T n).aG aY).aB⟩} J (fun j hj=>ahc _ _ _ _ fZ j hj)) (DO.out.trans (bi.set (g:=g) E y Y.drew (783+n*31+18+aY*3) (ad B))));go_wp2_with fail;refine mj (by kernel_rfl) ?_;change wpAny _ _ _ _ _ _ _ (ll _);refine aW 0 (U 66) (av (U ⟨g,783+n*31,ab⟩)) ?_;try simp only[ar,LT]
        refine aW 1 (U 67) (av (U ⟨g,783+n*31,ab⟩)) ?_;try simp only[ar,LT]
        refine aW 2 (U 68) (av (U ⟨g,783+n*31,ab⟩)) ?_;try simp only[ar,LT]
        refine aW 3 (U 69) (av (U ⟨g,783+n*31+17,ab⟩)) ?_;try simp only[ar,LT]
        refine aW 5 (U 71) (ad B) ?_;try simp only[ar,LT]
        refine aW 6 (U 72) (av (U ⟨g,783+n*31,ab⟩)) ?_;try simp only[ar,LT]
        refine aW 7 (U 73) (av (U ⟨g,783+n*31+18,ab⟩)) ?_;try simp only[ar,LT]
        refine aR 4 fun K A=>?_;go_simp;refine A _ _ ?_;clear A K;try simp only[ar,LT]
        refine aR 8 fun K A=>?_;go_simp;refine A _ _ ?_;clear A K;try simp only[ar,LT]
        refine aR 9 fun K A=>?_;go_simp;refine A _ _ ?_;clear A K;try simp only[ar,LT]
        refine aR 10 fun K A=>?_;go_simp;refine A _ _ ?_;clear A K;try simp only[ar,LT]
        refine dH (by kernel_rfl) ?_ _;have HV:=HW7;have o6:=abt n u (by rw[iK];show(d.T n).b'.nr<=8;rw[<-HN.out];exact h8) (by rw[iK];show(d.T n).a6<4;rw[<-rm.out];exact fZ) HV.out.1;rw[iK]at o6;rw[show ua n {d.T n with aG:=aO (d.T n).aG aY ⟨B,((d.T n).aG aY).ip,((d.T n).aG aY).aB⟩} (d.put n {d.T n with aG:=aO (d.T n).aG aY ⟨B,((d.T n).aG aY).ip,((d.T n).aG aY).aB⟩})=ua n {d.T n with aG:=aO (d.T n).aG aY ⟨B,((d.T n).aG aY).ip,((d.T n).aG aY).aB⟩} d from Bk _ _ _ _]at o6;go_wp2_with fail;refine o6.mono ?_;rintro e w' hG;obtain⟨rfl,q⟩:=kw.nF HV.out.2 hG;clear hG;go_wp2;go_end0;rw[dx.out];exact⟨J,q⟩
      .have b_:((fx:Int)==0)=false:=by simpa using(show¬(fx:Int)=0 by omega)
       rw[if_neg l9]at dx;clear l9;by_cases nB:rd.length=40
       .as_aux_lemma=>
         have b40:((B.size:Int)==40)=true:=by simpa using(show(B.size:Int)=40 by have:=By.out;omega)
         rw[if_pos nB]at dx;clear nB;have HE:=BD n u 36 HZ.out cQ im;go_wp2_with fail;refine HE.mono ?_;rintro e w' hG;obtain⟨rfl,q⟩:=kw.nF mp.out hG;clear hG;go_wp2;go_end0;rw[dx.out];exact⟨J,q⟩
       .as_aux_lemma=>
         have b40:((B.size:Int)==40)=false:=by simpa using(show¬(B.size:Int)=40 by have:=By.out;omega)
         rw[if_neg nB]at dx;clear nB;obtain⟨l1,m7⟩:=af (rd++[bB fx]);rw[<-m7]at dx;obtain⟨dZ,nR⟩:=af (bs [bB fx]);have Dk:=aa (show bs l1=B++dZ by rw[nR,HQ.out,m7,b7]);have fF:¬9223372036854775807<B.size+dZ.size:=by rw[nR,ct];simp only[gH];have:=By.out;omega
         have Fc:Y.drew.cell? ⟨g,783+n*31+17,ab⟩=U (I R (aY:Nat)):=by rw[x_.out.th n 17 u (by omega),rm.out];rfl
         have hA:=(HZ.out.au (ai Y (.cells #[I aM (fx:Nat)] 5))).au (aS _ _).drew;have v17:(Y.alloc (.cells #[I aM (fx:Nat)] 5)).drew.cell? ⟨g,783+n*31+17,ab⟩=U (I R (aY:Nat)):=by rw[hA.th n 17 u (by omega),rm.out];rfl
         have v13:(Y.alloc (.cells #[I aM (fx:Nat)] 5)).drew.cell? ⟨g,783+n*31+13+aY,ab⟩=U (ad (bs ((d.T n).cn aY))):=by rw[oy (783+n*31),hA.th n (13+aY) u (by omega),OF _ _ _ fZ]
         have f13:=hA.b5 (783+n*31+13+aY);have j0:=Mr (Y.alloc (.cells #[I aM (fx:Nat)] 5)).drew Y.heap.size fx My (aT _ _ 0 _ _ _ (a7 Y _));rw[<-nR]at j0;have zZ:=aa (bQ (hA.TL n (13+aY) u (by omega) (783+n*31+13+aY) (by omega) (ad (B++dZ)) {d.T n with cn:=aO (d.T n).cn aY l1} J (fun j hj=>by rw[ab0 _ _ _ _ fZ j hj,Dk.out])) (mp.out.trans ((bi.bk E y (ai Y (.cells #[I aM (fx:Nat)] 5))).trans ((bi.bk E y (aS _ _).drew).trans (bi.set (g:=g) E y _ (783+n*31+13+aY) (ad (B++dZ)))))));clear hA nR m7;go_wp2_with fail;refine mj (by kernel_rfl) ?_;change wpAny _ _ _ _ _ _ _ (ll _);refine aW 0 (U 86) (av (U ⟨g,783+n*31,ab⟩)) ?_;try simp only[ar,LT]
         refine aW 1 (U 87) (av (U ⟨g,783+n*31,ab⟩)) ?_;try simp only[ar,LT]
         refine aW 2 (U 88) (av (U ⟨g,783+n*31,ab⟩)) ?_;try simp only[ar,LT]
         refine aW 3 (U 89) (av (U ⟨g,783+n*31+17,ab⟩)) ?_;try simp only[ar,LT]
         refine aW 5 (U 91) (ad B) ?_;try simp only[ar,LT]
         refine aW 6 (U 92) (I aM fx) ?_;try simp only[ar,LT]
         refine aW 10 (U 96) (av (U ⟨g,783+n*31,ab⟩)) ?_;try simp only[ar,LT]
         refine aW 11 (U 97) (av (U ⟨g,783+n*31+13,ab⟩)) ?_;try simp only[ar,LT]
         refine iV (i:=4) (j:=7) (by kernel_rfl) J J J J (fun K A=>?_) (fun K A=>?_)
         .go_simp;refine A _ _ ?_;clear A K;try simp only[ar,LT]
          refine aR 7 fun K A=>?_;go_simp;refine A _ _ ?_;clear A K;try simp only[ar,LT]
          refine aR 8 fun K A=>?_;go_simp;refine A _ _ ?_;clear A K;try simp only[ar,LT]
          refine aR 9 fun K A=>?_;go_simp;refine A _ _ ?_;clear A K;try simp only[ar,LT]
          refine aR 12 fun K A=>?_;go_simp;refine A _ _ ?_;clear A K;try simp only[ar,LT]
          refine aR 13 fun K A=>?_;go_simp;refine A _ _ ?_;clear A K;try simp only[ar,LT]
          refine dH (by kernel_rfl) ?_ _;go_wp2;go_end0;rw[dx.out];exact⟨J,E,y,zZ.out.1,zZ.out.2⟩
         .go_simp;refine A _ _ ?_;clear A K;try simp only[ar,LT]
          refine iV (i:=4) (j:=8) (by kernel_rfl) J J J J (fun K A=>?_) (fun K A=>?_)
          .go_simp;refine A _ _ ?_;clear A K;try simp only[ar,LT]
           refine aR 8 fun K A=>?_;go_simp;refine A _ _ ?_;clear A K;try simp only[ar,LT]
           refine aR 9 fun K A=>?_;go_simp;refine A _ _ ?_;clear A K;try simp only[ar,LT]
           refine aR 12 fun K A=>?_;go_simp;refine A _ _ ?_;clear A K;try simp only[ar,LT]
           refine aR 13 fun K A=>?_;go_simp;refine A _ _ ?_;clear A K;try simp only[ar,LT]
           refine dH (by kernel_rfl) ?_ _;go_wp2;go_end0;rw[dx.out];exact⟨J,E,y,zZ.out.1,zZ.out.2⟩
          .go_simp;refine A _ _ ?_;clear A K;try simp only[ar,LT]
           refine iV (i:=4) (j:=9) (by kernel_rfl) J J J J (fun K A=>?_) (fun K A=>?_)
           .go_simp;refine A _ _ ?_;clear A K;try simp only[ar,LT]
            refine aR 9 fun K A=>?_;go_simp;refine A _ _ ?_;clear A K;try simp only[ar,LT]
            refine aR 12 fun K A=>?_;go_simp;refine A _ _ ?_;clear A K;try simp only[ar,LT]
            refine aR 13 fun K A=>?_;go_simp;refine A _ _ ?_;clear A K;try simp only[ar,LT]
            refine dH (by kernel_rfl) ?_ _;go_wp2;go_end0;rw[dx.out];exact⟨J,E,y,zZ.out.1,zZ.out.2⟩
           .go_simp;refine A _ _ ?_;clear A K;try simp only[ar,LT]
            refine aR 4 fun K A=>?_;go_simp;refine A _ _ ?_;clear A K;try simp only[ar,LT]
            refine aR 12 fun K A=>?_;go_simp;refine A _ _ ?_;clear A K;try simp only[ar,LT]
            refine aR 13 fun K A=>?_;go_simp;refine A _ _ ?_;clear A K;try simp only[ar,LT]
            refine dH (by kernel_rfl) ?_ _;go_wp2;go_end0;rw[dx.out];exact⟨J,E,y,zZ.out.1,zZ.out.2⟩
    .as_aux_lemma=>
      have b2:((kd:Int)==2)=false:=by simpa using(show¬(kd:Int)=2 by omega)
      rw[if_neg (show¬kd=2 by omega)]at dx;clear iw;go_wp2_with fail;go_quiet((go_at_call 47;exact pc (HK _)));obtain⟨Y,hY⟩:=af (aK.drewN nq);have lb:Below W.heap.size W Y:=by rw[hY];exact xp qn _
      have HZ:=aa (HH.out.au lb);have mp:=aa (bi.bk (g:=g) E y lb);rw[<-hY];clear hY qn lb z1 z4 nq HK w1 sh;have x_:=aa (HZ.out.au (aS _ _).drew);have DO:=aa (mp.out.trans (bi.bk E y (aS _ _).drew));obtain⟨l1,m7⟩:=af (rd++[bB fx]);rw[<-m7]at dx;obtain⟨dZ,nR⟩:=af (bs [bB fx]);have fF:¬9223372036854775807<B.size+dZ.size:=by rw[nR,ct];simp only[gH];have:=By.out;omega
      obtain⟨q1,pw⟩:=af (B++dZ);have EA:=aa (show q1=bs l1 by rw[pw,nR,HQ.out,m7,b7]);have pI:=aa (show q1.size=l1.length by rw[EA.out,ct]);have j0:=Mr (Y.alloc (.cells #[I aM (fx:Nat)] 5)) Y.heap.size fx My (aT _ _ 0 _ _ _ (a7 Y _));rw[<-nR]at j0;obtain⟨Y1,jc⟩:=af (Y.alloc (.cells #[I aM (fx:Nat)] 5));have hA:DX g P d E y Y1.drew:=by rw[jc];exact(HZ.out.au (ai Y _)).au (aS _ _).drew
      have n_:bi g E y E y W Y1.drew:=by rw[jc];exact mp.out.trans ((bi.bk E y (ai Y _)).trans (bi.bk E y (aS _ _).drew))
      have Fc:Y1.drew.cell? ⟨g,783+n*31+17,ab⟩=U (I R (aY:Nat)):=by rw[hA.th n 17 u (by omega),rm.out];rfl
      have u13:Y1.drew.cell? ⟨g,783+n*31+13+aY,ab⟩=U (ad (bs ((d.T n).cn aY))):=by rw[oy (783+n*31),hA.th n (13+aY) u (by omega),OF _ _ _ fZ]
      have f13:=hA.b5 (783+n*31+13+aY);have wi:=aa (bQ (hA.TL n (13+aY) u (by omega) (783+n*31+13+aY) (by omega) (ad q1) {d.T n with cn:=aO (d.T n).cn aY l1} J (fun j hj=>by rw[ab0 _ _ _ _ fZ j hj,EA.out])) (n_.trans (bi.set (g:=g) E y _ (783+n*31+13+aY) (ad q1))));clear hA n_ nR m7;go_wp2_with fail;rw[<-pw,<-jc];clear pw jc j0 fF HZ mp x_ DO;refine mj (by kernel_rfl) ?_;change wpAny _ _ _ _ _ _ _ (ll _);refine aW 0 (U 104) (av (U ⟨g,783+n*31,ab⟩)) ?_;try simp only[ar,LT]
      refine aW 1 (U 105) (av (U ⟨g,783+n*31,ab⟩)) ?_;try simp only[ar,LT]
      refine aW 2 (U 106) (av (U ⟨g,783+n*31,ab⟩)) ?_;try simp only[ar,LT]
      refine aW 3 (U 107) (av (U ⟨g,783+n*31+17,ab⟩)) ?_;try simp only[ar,LT]
      refine aW 5 (U 109) (ad q1) ?_;try simp only[ar,LT]
      refine aW 6 (U 110) (av (U ⟨g,783+n*31,ab⟩)) ?_;try simp only[ar,LT]
      refine aW 7 (U 111) (av (U ⟨g,783+n*31+13,ab⟩)) ?_;try simp only[ar,LT]
      refine aR 4 fun K A=>?_;go_simp;refine A _ _ ?_;clear A K;try simp only[ar,LT]
      refine aR 8 fun K A=>?_;go_simp;refine A _ _ ?_;clear A K;try simp only[ar,LT]
      refine aR 9 fun K A=>?_;go_simp;refine A _ _ ?_;clear A K;try simp only[ar,LT]
      refine dH (by kernel_rfl) ?_ _;obtain⟨V,hV⟩:=af (Y1.setCell ⟨g,783+n*31+13+aY,ab⟩ (ad q1)).drew;replace wi:Hid (DX g P (d.put n {d.T n with cn:=aO (d.T n).cn aY l1}) E y V/\bi g E y E y W V):=by rw[hV];exact wi
      rw[<-hV];clear hV Fc u13 f13;by_cases pO:q1.size<16
      .as_aux_lemma=>
        have s16:(q1.size:Int)<16:=by omega
        rw[if_pos (show l1.length<16 by rw[<-pI.out];exact pO)]at dx;clear pO;go_wp2;go_end0;rw[dx.out];exact⟨J,E,y,wi.out.1,wi.out.2⟩
      .as_aux_lemma=>
        have s16:¬(q1.size:Int)<16:=by omega
        rw[if_neg (show¬l1.length<16 by rw[<-pI.out];exact pO),<-EA.out]at dx;clear pO;have iU:=Qt q1 V;obtain⟨rr,jO⟩:=af (gS q1);rw[<-jO]at iU dx;have bc:=aa jO;clear jO;cases rr with
         |none=>as_aux_lemma=>unfold yE at iU;simp only at iU dx;go_wp2_with fail;refine iU.mono ?_;rintro e X⟨rfl,hX⟩;have HX:=aa (wi.out.1.au hX);have gF:=aa (wi.out.2.trans (bi.bk E y hX));clear hX iU wi;have HE:=BD n u 22 HX.out cQ (by rw[iK];exact im);rw[show gf n 2 22 cb (d.put n {d.T n with cn:=aO (d.T n).cn aY l1})=gf n 2 22 cb d from alg (t:={d.T n with cn:=aO (d.T n).cn aY l1}) J J 2 22 cb]at HE;go_wp2_with fail;refine HE.mono ?_;rintro e w' hG;obtain⟨rfl,q⟩:=kw.nF gF.out hG;clear hG;go_wp2;go_end0;rw[dx.out];exact⟨J,q⟩
         |some St=>
          as_aux_lemma=>
           obtain⟨ip,aB⟩:=St;unfold yE at iU;simp only at iU dx;go_wp2_with fail;refine iU.mono ?_;rintro e X⟨rfl,hX⟩;have HX:=aa ((wi.out.1.au hX).au (aS _ _).drew);have gF:=aa (wi.out.2.trans ((bi.bk E y hX).trans (bi.bk E y (aS _ _).drew)));clear hX iU wi;have Fc:X.drew.cell? ⟨g,783+n*31+17,ab⟩=U (I R (aY:Nat)):=by rw[HX.out.th n 17 u (by omega),iK,rm.out];rfl
           have u1:X.drew.cell? ⟨g,783+n*31+18+aY*3+1,ab⟩=U (I aj (((d.T n).aG aY).ip:Nat)):=by rw[show 783+n*31+18+aY*3+1=783+n*31+(18+aY*3+1)by omega,HX.out.th n (18+aY*3+1) u (by omega),iK,(mB _ _ _ fZ).2.1]
           have f1:=HX.out.b5 (783+n*31+18+aY*3+1);have Hp:=aa (bQ (HX.out.Rf (18+aY*3+1) u (by omega) (783+n*31+18+aY*3+1) (by omega) (I aj (ip:Nat)) {d.T n with cn:=aO (d.T n).cn aY l1,aG:=aO (d.T n).aG aY ⟨((d.T n).aG aY).bf,ip,((d.T n).aG aY).aB⟩} J (fun j hj=>ad5 ({d.T n with cn:=aO (d.T n).cn aY l1}) (E n) aY ip fZ j hj)) (gF.out.trans (bi.set (g:=g) E y X.drew (783+n*31+18+aY*3+1) (I aj (ip:Nat)))));clear HX gF;go_wp2_with fail;refine mj (by kernel_rfl) ?_;change wpAny _ _ _ _ _ _ _ (ll _);refine aW 0 (U 128) (av (U ⟨g,783+n*31,ab⟩)) ?_;try simp only[ar,LT]
           refine aW 1 (U 129) (av (U ⟨g,783+n*31,ab⟩)) ?_;try simp only[ar,LT]
           refine aW 2 (U 130) (av (U ⟨g,783+n*31,ab⟩)) ?_;try simp only[ar,LT]
           refine aW 3 (U 131) (av (U ⟨g,783+n*31+17,ab⟩)) ?_;try simp only[ar,LT]
           refine aW 5 (U 133) (I aj (ip:Nat)) ?_;try simp only[ar,LT]
           refine aW 6 (U 134) (av (U ⟨g,783+n*31,ab⟩)) ?_;try simp only[ar,LT]
           refine aW 7 (U 135) (av (U ⟨g,783+n*31+18,ab⟩)) ?_;try simp only[ar,LT]
           refine aR 4 fun K A=>?_;go_simp;refine A _ _ ?_;clear A K;try simp only[ar,LT]
           refine aR 8 fun K A=>?_;go_simp;refine A _ _ ?_;clear A K;try simp only[ar,LT]
           refine aR 9 fun K A=>?_;go_simp;refine A _ _ ?_;clear A K;try simp only[ar,LT]
           refine aR 10 fun K A=>?_;go_simp;refine A _ _ ?_;clear A K;try simp only[ar,LT]
           refine dH (by kernel_rfl) ?_ _;obtain⟨X2,tH⟩:=af (X.setCell ⟨g,783+n*31+18+aY*3+1,ab⟩ (I aj (ip:Nat))).drew;replace Hp:Hid (DX g P (d.put n {d.T n with cn:=aO (d.T n).cn aY l1,aG:=aO (d.T n).aG aY ⟨((d.T n).aG aY).bf,ip,((d.T n).aG aY).aB⟩}) E y X2/\bi g E y E y W X2):=by rw[tH];exact Hp
           rw[<-tH];clear tH Fc u1 f1;have HX:=aa (Hp.out.1.au (aS _ _).drew);have gF:=aa (Hp.out.2.trans (bi.bk E y (aS _ _).drew));clear Hp;have Fc:X2.drew.cell? ⟨g,783+n*31+17,ab⟩=U (I R (aY:Nat)):=by rw[HX.out.th n 17 u (by omega),iK,rm.out];rfl
           have u1:X2.drew.cell? ⟨g,783+n*31+18+aY*3+2,ab⟩=U (I R ((d.T n).aG aY).aB):=by rw[show 783+n*31+18+aY*3+2=783+n*31+(18+aY*3+2)by omega,HX.out.th n (18+aY*3+2) u (by omega),iK,(mB _ _ _ fZ).2.2];simp only[dN]
           have f1:=HX.out.b5 (783+n*31+18+aY*3+2);have ajm:=aa (bQ (HX.out.Rf (18+aY*3+2) u (by omega) (783+n*31+18+aY*3+2) (by omega) (I R (aB:Nat)) {d.T n with cn:=aO (d.T n).cn aY l1,aG:=aO (d.T n).aG aY ⟨((d.T n).aG aY).bf,ip,aB⟩} J (fun j hj=>by have:=alR ({d.T n with cn:=aO (d.T n).cn aY l1,aG:=aO (d.T n).aG aY ⟨((d.T n).aG aY).bf,ip,((d.T n).aG aY).aB⟩}) (E n) aY (aB:Nat) fZ j hj;simp only[dN,BI]at this;exact this)) (gF.out.trans (bi.set (g:=g) E y X2.drew (783+n*31+18+aY*3+2) (I R (aB:Nat)))));clear HX gF;go_wp2_with fail;refine mj (by kernel_rfl) ?_;change wpAny _ _ _ _ _ _ _ (ll _);refine aW 0 (U 138) (av (U ⟨g,783+n*31,ab⟩)) ?_;try simp only[ar,LT]
           refine aW 1 (U 139) (av (U ⟨g,783+n*31,ab⟩)) ?_;try simp only[ar,LT]
           refine aW 2 (U 140) (av (U ⟨g,783+n*31,ab⟩)) ?_;try simp only[ar,LT]
           refine aW 3 (U 141) (av (U ⟨g,783+n*31+17,ab⟩)) ?_;try simp only[ar,LT]
           refine aW 5 (U 143) (I R (aB:Nat)) ?_;try simp only[ar,LT]
           refine aW 6 (U 144) (av (U ⟨g,783+n*31,ab⟩)) ?_;try simp only[ar,LT]
           refine aW 7 (U 145) (av (U ⟨g,783+n*31+18,ab⟩)) ?_;try simp only[ar,LT]
           refine aR 4 fun K A=>?_;go_simp;refine A _ _ ?_;clear A K;try simp only[ar,LT]
           refine aR 8 fun K A=>?_;go_simp;refine A _ _ ?_;clear A K;try simp only[ar,LT]
           refine aR 9 fun K A=>?_;go_simp;refine A _ _ ?_;clear A K;try simp only[ar,LT]
           refine aR 10 fun K A=>?_;go_simp;refine A _ _ ?_;clear A K;try simp only[ar,LT]
           refine dH (by kernel_rfl) ?_ _;have HV:=ajm;have o6:=abt n u (by rw[iK];show(d.T n).b'.nr<=8;rw[<-HN.out];exact h8) (by rw[iK];show(d.T n).a6<4;rw[<-rm.out];exact fZ) HV.out.1;rw[iK]at o6;rw[show ua n {d.T n with cn:=aO (d.T n).cn aY l1,aG:=aO (d.T n).aG aY ⟨((d.T n).aG aY).bf,ip,aB⟩} (d.put n {d.T n with cn:=aO (d.T n).cn aY l1,aG:=aO (d.T n).aG aY ⟨((d.T n).aG aY).bf,ip,aB⟩})=ua n {d.T n with cn:=aO (d.T n).cn aY l1,aG:=aO (d.T n).aG aY ⟨((d.T n).aG aY).bf,ip,aB⟩} d from Bk _ _ _ _]at o6;go_wp2_with fail;refine o6.mono ?_;rintro e w' hG;obtain⟨rfl,q⟩:=kw.nF HV.out.2 hG;clear hG;go_wp2;go_end0;rw[dx.out];exact⟨J,q⟩
theorem an9:∃i,ae.info? 65=U i/\i.zero=U (I ah 0)/\i.size=1/\i.bytes=8:=by
 have hz:(ae.info? 65).map (·.zero)=U (U (I ah 0)):=by kernel_rfl
 have F:(ae.info? 65).map (·.size)=U 1:=by kernel_rfl
 have hb:(ae.info? 65).map (·.bytes)=U 8:=by kernel_rfl
 cases N:ae.info? 65 with
  |none=>rw[N]at F;simp at F
  |some i=>rw[N]at hz F hb;simp at hz F hb;exact⟨i,J,hz,F,hb⟩
theorem afm(p:ByteArray):bs p.data.toList=p:=by unfold bs;rw[Array.toArray_toList]
theorem agk(l:List Nat)(x:Nat):qf (l++[x])=qf l++[I ah x]:=by simp[qf]
theorem alF{n i B:Nat}{r:List Nat}{d:bC}(N:kW d.mem=U B):n8 n (i::r) d=n8 n r ⟨aO d.T n {d.T n with dI:=aO (d.T n).dI i (B*64),bP:=(d.T n).bP++[B*64]},jI d.mem B (gU (a1 (d.T n).b'.nr i) ((d.T n).aG i)),d.aX⟩:=by show(match kW d.mem with|ab=>_|U B=>_)=_;rw[N]
theorem aif{n i:Nat}{r:List Nat}{d:bC}(N:kW d.mem=ab):n8 n (i::r) d=gf n 2 12 cb d:=by show(match kW d.mem with|ab=>_|U B=>_)=_;rw[N]
def M4(t:DT)(i:Nat):Prop:=∀j,i<=j->j<4->2<=a1 t.b'.nr j->rz (a1 t.b'.nr j) (t.aG j)
set_option maxHeartbeats 4000000 in set_option maxRecDepth 20000 in theorem adD{g:Nat}{P:PV}{d0:bC}{wL:Nat->ag}{y:ag}{W:ac}(n:Nat)(u:n<3)(Wn:(d0.T n).b'.nr<=8)(aa':M4 (d0.T n) 0)(Po:(d0.T n).bP=[])(h:DX g P d0 wL y W)(ab8:d0.aX.length<=1000000):ap ae 83 #[av (U ⟨g,0,ab⟩),I R n] W (kw g P (n8 n (bx (d0.T n).b'.nr) d0) wL y W):=by
 have rU:¬(n:Int)<0:=by omega
 have j1:(0:Int)<=n:=by omega
 have j2:¬(2:Int)<n:=by omega
 have n9:(n:Int)<3:=by omega
 obtain⟨nr,b0⟩:=af (d0.T n).b'.nr;obtain⟨bd,hR⟩:=af (n8 n (bx nr) d0);have h8:nr<=8:=by rw[b0];exact Wn
 have w1:AX R (nr:Int)=nr:=by rw[jP]<;>omega
 have HK:=fun k z w=>wC nr k (by omega) z w;rw[<-b0,<-hR];have rn:=aa h;have nE:=aa (bi.refl g wL y W);have HI0:=aa (show(d0.T n).b'.nr=nr/\M4 (d0.T n) 0/\(d0.T n).bP.length<=0/\(∀x∈(d0.T n).bP,x<18446744073709551616)/\d0.aX.length<=1000000/\n8 n (lL nr 0) d0=bd from⟨b0.symm,aa',by rw[Po];exact aA _,by rw[Po];simp,ab8,by rw[U0 h8,hR]⟩);clear h b0 hR Wn aa' Po ab8;go_enter func83,ntmps83;go_wp2_with fail;go_loopw[5](fun aL w'=>∃(i:Nat)(d:bC)(E:Nat->ag),i<=4/\aL=I R i/\Hid (DX g P d E y w')/\Hid (bi g wL y E y W w')/\Hid ((d.T n).b'.nr=nr/\M4 (d.T n) i/\(d.T n).bP.length<=i/\(∀x∈(d.T n).bP,x<18446744073709551616)/\d.aX.length<=1000000/\n8 n (lL nr i) d=bd))(fun aL _=>4-(intOf aL).toNat);case atStart=>exact⟨0,d0,wL,by omega,J,rn,nE,HI0⟩
 case round=>
  obtain⟨i,d,E,hi,rfl,HD,HF,HI⟩:=hrel;clear rn nE HI0;have ET:wr.cell? ⟨g,783+n*31+8,ab⟩=U (I aj (nr:Nat)):=by rw[HD.out.th n 8 u (by omega),<-HI.out.1];rfl
  by_cases am:i<4
  .have hl:(i:Int)<4:=by omega
   have k1:(0:Int)<=i:=by omega
   have qr:=fun w=>HK i am w;obtain⟨kd,fg⟩:=af (a1 nr i);simp only[<-fg]at qr;have iw:kd<=3:=by rw[fg];exact Qa _ _
   by_cases gG:2<=kd
   .have aor:¬(kd:Int)<2:=by omega
    have EU:=aa2 am (by rw[<-fg];exact gG);have ww:rz kd ((d.T n).aG i):=by have:=HI.out.2.1 i (aA _) am (by rw[HI.out.1,<-fg];exact gG);rwa[HI.out.1,<-fg]at this
    obtain⟨s,F⟩:=af (bs (gU kd ((d.T n).aG i)));have im:s.size<=64:=by rw[F,ct];exact RT ww
    have XW:=aa (show s.data.toList=gU kd ((d.T n).aG i)by rw[F];rfl);have abd:=aa (show n8 n (i::lL nr (i+1)) d=bd by rw[<-EU];exact HI.out.2.2.2.2.2);have HKD:=aa fg;clear EU;have zH:=aa ww;obtain⟨pt,jR⟩:=af ((d.T n).aG i).bf;obtain⟨zb,KH⟩:∃aI:ByteArray,aI=bs [bB 0]:=⟨_,J⟩;obtain⟨s0,Fa⟩:=af (pt++zb);have g9:pt.size<=40:=by
     rw[jR];rcases ww with⟨_,q,_⟩|⟨_,q,_⟩;.exact q
     .rw[q];exact oz _
    have fF:¬9223372036854775807<pt.size+zb.size:=by rw[KH,ct];simp only[gH];omega
    have hn:=aa (show kd=2->s=s0 by intro h2;rw[F,Fa,KH,jR];unfold gU;rw[if_neg (by omega),<-b7,afm];rfl);have y18:wr.drew.cell? ⟨g,783+n*31+18+i*3,ab⟩=U (ad pt):=by have:=HD.out.th n (18+i*3) u (by omega);rw[(mB _ _ _ am).1,<-jR,<-oy]at this;exact this
    have hA:=(HD.out.au (ai wr (.cells #[I aM 0] 5))).au (aS _ _).drew;have z18:(wr.alloc (.cells #[I aM 0] 5)).drew.cell? ⟨g,783+n*31+18+i*3,ab⟩=U (ad pt):=by have:=hA.th n (18+i*3) u (by omega);rw[(mB _ _ _ am).1,<-jR,<-oy]at this;exact this
    have j0:(convert 134 9 (ak (U ⟨wr.heap.size,0,ab⟩) 1 1)).run ae (wr.alloc (.cells #[I aM 0] 5)).drew= .ok (ad zb) (wr.alloc (.cells #[I aM 0] 5)).drew:=by rw[KH];exact Mr (wr.alloc (.cells #[I aM 0] 5)).drew wr.heap.size 0 (by omega) (aT _ _ 0 _ _ _ (a7 wr _))
    have HA:=aa (bQ hA (HF.out.trans ((bi.bk (g:=g) E y (ai wr (.cells #[I aM 0] 5))).trans (bi.bk E y (aS _ _).drew))));clear hA jR KH F fg ww;have Mp:=aa Fa;clear Fa;go_wp2_with(go_at_call 47;refine(qr _).mono ?_;rintro e w'⟨rfl,hw⟩;rw[hw];clear hw w');go_cut[7](fun eG wc=>eG=ad s0/\Hid (DX g P d E y wc/\bi g wL y E y W wc));case first=>
     as_aux_lemma=>
      refine mj (by kernel_rfl) ?_;change wpAny _ _ _ _ _ _ _ (ll _);refine aW 0 (U 29) (av (U ⟨g,783+n*31,ab⟩)) ?_;try simp only[ar,LT]
      refine aW 1 (U 30) (I R i) ?_;try simp only[ar,LT]
      refine aW 2 (U 31) (av (U ⟨g,783+n*31,ab⟩)) ?_;try simp only[ar,LT]
      refine aW 3 (U 32) (av (U ⟨g,783+n*31+18,ab⟩)) ?_;try simp only[ar,LT]
      refine aW 4 (U 33) (av (U ⟨g,783+n*31+18+i*3,ab⟩)) ?_;try simp only[ar,LT]
      refine aW 5 (U 34) (av (U ⟨g,783+n*31+18+i*3,ab⟩)) ?_;try simp only[ar,LT]
      refine iV (i:=6) (j:=7) (by kernel_rfl) J J J J (fun K A=>?_) (fun K A=>?_)
      .go_simp;refine A _ _ ?_;clear A K;try simp only[ar,LT]
       refine aR 7 fun K A=>?_;go_simp;refine A _ _ ?_;clear A K;try simp only[ar,LT]
       refine aR 8 fun K A=>?_;go_simp;refine A _ _ ?_;clear A K;try simp only[ar,LT]
       refine aR 9 fun K A=>?_;go_simp;refine A _ _ ?_;clear A K;try simp only[ar,LT]
       refine aR 10 fun K A=>?_;go_simp;refine A _ _ ?_;clear A K;try simp only[ar,LT]
       refine dH (by kernel_rfl) ?_ _;go_wp2_with fail;rw[<-Mp.out];go_meet;case rel=>exact⟨J,HA⟩
      .go_simp;refine A _ _ ?_;clear A K;try simp only[ar,LT]
       refine iV (i:=6) (j:=8) (by kernel_rfl) J J J J (fun K A=>?_) (fun K A=>?_)
       .go_simp;refine A _ _ ?_;clear A K;try simp only[ar,LT]
        refine aR 8 fun K A=>?_;go_simp;refine A _ _ ?_;clear A K;try simp only[ar,LT]
        refine aR 9 fun K A=>?_;go_simp;refine A _ _ ?_;clear A K;try simp only[ar,LT]
        refine aR 10 fun K A=>?_;go_simp;refine A _ _ ?_;clear A K;try simp only[ar,LT]
        refine dH (by kernel_rfl) ?_ _;go_wp2_with fail;rw[<-Mp.out];go_meet;case rel=>exact⟨J,HA⟩
       .go_simp;refine A _ _ ?_;clear A K;try simp only[ar,LT]
        refine aR 6 fun K A=>?_;go_simp;refine A _ _ ?_;clear A K;try simp only[ar,LT]
        refine aR 9 fun K A=>?_;go_simp;refine A _ _ ?_;clear A K;try simp only[ar,LT]
        refine aR 10 fun K A=>?_;go_simp;refine A _ _ ?_;clear A K;try simp only[ar,LT]
        refine dH (by kernel_rfl) ?_ _;go_wp2_with fail;rw[<-Mp.out];go_meet;case rel=>exact⟨J,HA⟩
    case rest=>
     as_aux_lemma=>
      obtain⟨rfl,G⟩:=hcut;clear y18 z18 j0 HA fF g9 Mp qr HK ET;go_upto_if 40 with(fail);go_cut[7](fun eG wc=>eG=ad s/\Hid (DX g P d E y wc/\bi g wL y E y W wc));case first=>
       as_aux_lemma=>
        rcases show kd=2\/kd=3 by omega with GS|Nj
        .have b3:((kd:Int)==3)=false:=by simpa using(show¬(kd:Int)=3 by omega)
         obtain rfl:=hn.out GS;clear GS hn;go_wp2_with fail;go_meet;case rel=>exact⟨J,G⟩
        .have b3:((kd:Int)==3)=true:=by simpa using(show(kd:Int)=3 by omega)
         obtain⟨ip,bt⟩:=af ((d.T n).aG i).ip;obtain⟨Lz,YZ,ajl,Ts,XH⟩:∃B:Nat,((d.T n).aG i).aB=B/\B<=65535/\ip<4294967296/\Hid (s=⟨(iI ip B).toArray⟩):=by
          rcases zH.out with⟨q,_⟩|⟨_,_,h2,B,h3,h4⟩;.omega
          .refine⟨B,h3,h4,by rw[bt];exact h2,aa ?_⟩;have:=XW.out;unfold gU at this;rw[if_pos Nj,h3,<-bt,d_]at this;rw[<-this]
         have Qe:=fun w=>aak ip Ts Lz ajl w;rw[<-XH.out]at Qe;have kO:=aa (G.out.1.au (aS _ wc).drew);have DO:=aa (G.out.2.trans (bi.bk E y (aS _ wc).drew));have z1:wc.drew.cell? ⟨g,783+n*31+18+i*3+1,ab⟩=U (I aj (ip:Nat)):=by rw[show 783+n*31+18+i*3+1=783+n*31+(18+i*3+1)by omega,kO.out.th n (18+i*3+1) u (by omega),(mB _ _ _ am).2.1,bt]
         have z2:wc.drew.cell? ⟨g,783+n*31+18+i*3+2,ab⟩=U (I R (Lz:Nat)):=by rw[show 783+n*31+18+i*3+2=783+n*31+(18+i*3+2)by omega,kO.out.th n (18+i*3+2) u (by omega),(mB _ _ _ am).2.2,YZ]
         clear Nj hn XH bt YZ zH;go_wp2_with fail;refine mj (by kernel_rfl) ?_;change wpAny _ _ _ _ _ _ _ (ll _);refine aW 0 (U 41) (av (U ⟨g,783+n*31,ab⟩)) ?_;try simp only[ar,LT]
         refine aW 1 (U 42) (I R i) ?_;try simp only[ar,LT]
         refine aW 2 (U 43) (av (U ⟨g,783+n*31,ab⟩)) ?_;try simp only[ar,LT]
         refine aW 3 (U 44) (av (U ⟨g,783+n*31+18,ab⟩)) ?_;try simp only[ar,LT]
         refine aW 4 (U 45) (av (U ⟨g,783+n*31+18+i*3,ab⟩)) ?_;try simp only[ar,LT]
         refine aW 5 (U 46) (av (U ⟨g,783+n*31+18+i*3+1,ab⟩)) ?_;try simp only[ar,LT]
         refine aW 7 (U 48) (av (U ⟨g,783+n*31,ab⟩)) ?_;try simp only[ar,LT]
         refine aW 8 (U 49) (I R i) ?_;try simp only[ar,LT]
         refine aW 9 (U 50) (av (U ⟨g,783+n*31,ab⟩)) ?_;try simp only[ar,LT]
         refine aW 10 (U 51) (av (U ⟨g,783+n*31+18,ab⟩)) ?_;try simp only[ar,LT]
         refine aW 11 (U 52) (av (U ⟨g,783+n*31+18+i*3,ab⟩)) ?_;try simp only[ar,LT]
         refine aW 12 (U 53) (av (U ⟨g,783+n*31+18+i*3+2,ab⟩)) ?_;try simp only[ar,LT]
         refine iV (i:=6) (j:=13) (by kernel_rfl) J J J J (fun K A=>?_) (fun K A=>?_)
         .go_simp;refine A _ _ ?_;clear A K;try simp only[ar,LT]
          refine aR 13 fun K A=>?_;go_simp;refine A _ _ ?_;clear A K;try simp only[ar,LT]
          refine aR 14 fun K A=>?_;refine Gl.lf 118 #[I aj (ip:Nat),I R (Lz:Nat)] (by kernel_rfl) (Qe wc.drew) ?_;rintro e X⟨rfl,hX⟩;have HD:=aa (kO.out.au hX);have HF:=aa (DO.out.trans (bi.bk E y hX));clear hX;refine⟨_,J,A _ _ ?_⟩;clear A K;try simp only[ar,LT]
          refine aR 15 fun K A=>?_;go_simp;refine A _ _ ?_;clear A K;try simp only[ar,LT]
          refine dH (by kernel_rfl) ?_ _;go_wp2_with fail;go_meet;case rel=>exact⟨J,aa ⟨HD.out,HF.out⟩⟩
         .go_simp;refine A _ _ ?_;clear A K;try simp only[ar,LT]
          refine aR 6 fun K A=>?_;go_simp;refine A _ _ ?_;clear A K;try simp only[ar,LT]
          refine aR 14 fun K A=>?_;refine Gl.lf 118 #[I aj (ip:Nat),I R (Lz:Nat)] (by kernel_rfl) (Qe wc.drew) ?_;rintro e X⟨rfl,hX⟩;have HD:=aa (kO.out.au hX);have HF:=aa (DO.out.trans (bi.bk E y hX));clear hX;refine⟨_,J,A _ _ ?_⟩;clear A K;try simp only[ar,LT]
          refine aR 15 fun K A=>?_;go_simp;refine A _ _ ?_;clear A K;try simp only[ar,LT]
          refine dH (by kernel_rfl) ?_ _;go_wp2_with fail;go_meet;case rel=>exact⟨J,aa ⟨HD.out,HF.out⟩⟩
      case rest=>
       as_aux_lemma=>
        obtain⟨rfl,G⟩:=hcut;clear hn zH;obtain⟨X,hX⟩:=af wc;rw[<-hX]at G;rw[<-hX];have HD:=aa G.out.1;have HF:=aa G.out.2;clear G hX;obtain⟨aoB,rb⟩:=af (kW d.mem);cases aoB with
         |none=>as_aux_lemma=>have lV:=(show ap ae 119 #[av (U ⟨g,3,ab⟩),ad s] X fun e w'=>e=aq (az #[I ah 0,I R 9])/\Vr.fD (LD g P d.T E y) d.mem w'/\X.grownBy w' (U g)from Vr.adS HD.out.mem rb.symm s im);have HV:=aa (show bd=gf n 2 12 cb d by rw[<-abd.out];exact aif rb.symm);clear rb;go_wp2_with fail;refine lV.mono ?_;rintro e Y⟨rfl,hm,hg⟩;have HY:=aa (show DX g P d E y Y from HD.out.me hm hg);have la:=aa (HF.out.trans (bi.grown E y hg));clear hm hg lV;have HE:=BD n u 12 HY.out HI.out.2.2.2.2.1 ⟨by have:=HI.out.2.2.1;omega,HI.out.2.2.2.1⟩;go_wp2_with fail;refine HE.mono ?_;rintro e w' hG;obtain⟨rfl,q⟩:=kw.nF la.out hG;clear hG;go_wp2;go_end0;rw[HV.out];exact⟨J,q⟩
         |some B=>
          as_aux_lemma=>
           obtain⟨GP,ace,_,_⟩:=LL rb.symm;have lV:=(show ap ae 119 #[av (U ⟨g,3,ab⟩),ad s] X fun e w'=>e=aq (az #[I ah ((B*64:Nat):Int),I R 0])/\Vr.fD (LD g P d.T E y) (jI d.mem B s.data.toList) w'/\X.grownBy w' (U g)from Vr.aij HD.out.mem rb.symm s im);obtain⟨a,ha⟩:=af (B*64);obtain⟨d1,aqw⟩:∃d1:bC,d1=⟨d.T,jI d.mem B s.data.toList,d.aX⟩:=⟨_,J⟩;have HV:=aa (show n8 n (lL nr (i+1)) (d1.put n {d.T n with dI:=aO (d.T n).dI i a,bP:=(d.T n).bP++[a]})=bd by rw[<-abd.out,alF rb.symm,ha,aqw,XW.out,HI.out.1,<-HKD.out];rfl);have M6:a<18446744073709551616:=by omega
           rw[<-ha]at lV;have uK:=aa (show d1.T=d.T by rw[aqw]);have Ct:=aa (show d1.aX=d.aX by rw[aqw]);have HDM:=fun Y(hm:Vr.fD (LD g P d.T E y) (jI d.mem B s.data.toList) Y)(hg:X.grownBy Y (U g))=>(show DX g P d1 E y Y from by rw[aqw];exact HD.out.me hm hg);clear rb aqw ha;go_wp2_with fail;refine lV.mono ?_;rintro e Y⟨rfl,hm,hg⟩;have HY:=aa (HDM Y hm hg);have la:=aa (HF.out.trans (bi.grown E y hg));clear hm hg lV HDM;obtain⟨v0,CN⟩:=af (E n);obtain⟨L0,Aa⟩:=af (d.T n).bP.length;have hL4:L0<=4:=by rw[Aa];have:=HI.out.2.2.1;omega
           have OC:Y.cell? ⟨g,783+n*31+30,ab⟩=U v0:=by rw[CN];exact HY.out.th n 30 u (by omega)
           have hYg:=HY.out.gh;obtain⟨eq,d8,dh,dD,dz⟩:=an9;have hA:=HY.out.au (ai Y (.cells #[I ah (a:Nat)] 65));have afO:(Y.alloc (.cells #[I ah (a:Nat)] 65)).cell? ⟨g,783+n*31+30,ab⟩=U v0:=by rw[CN];exact hA.th n 30 u (by omega)
           have lc:=aa (show(Y.alloc (.cells #[I ah (a:Nat)] 65)).ownsRow 0 65 1 v0 L0 (qf (d.T n).bP)by have:=hA.oM n u;rw[uK.out]at this;rw[CN,Aa];exact this);have mX:=aa (show(Y.alloc (.cells #[I ah (a:Nat)] 65)).heap[Y.heap.size]?=U (.cells #[I ah (a:Nat)] 65 (0,0))from a7 Y _);have aqx:Hid (∀w2:ac,(Y.alloc (.cells #[I ah (a:Nat)] 65)).grownBy w2 v0.ownBlock->w2.cell? ⟨g,783+n*31+30,ab⟩=U v0/\w2.frozen? ⟨g,783+n*31+30,ab⟩=false):=aa (fun w2 bU=>by obtain⟨rr,jO,_⟩:=hA.mem;have hB:w2.heap[g]?=(Y.alloc (.cells #[I ah (a:Nat)] 65)).heap[g]?:=bU.block g hA.gh (fun e=>hA.nl.2 n u (by rw[<-CN];exact e.symm));exact⟨(dt hB _).trans afO,frozen_of_row _ _ _ _ _ (hB.trans jO)⟩);have uu:Hid (∀(gg bS:Nat)(w2:ac),w2.ownsRow 0 65 1 (ak (U ⟨gg,0,ab⟩) (L0+1) bS) (L0+1) (qf (d.T n).bP++[I ah (a:Nat)])->(Y.alloc (.cells #[I ah (a:Nat)] 65)).grownBy w2 v0.ownBlock->(v0.ownBlock=U gg\/gg=Y.heap.size+1)->DX g P (d1.put n {d.T n with bP:=(d.T n).bP++[a]}) (aO E n (ak (U ⟨gg,0,ab⟩) (L0+1) bS)) y (w2.setCell ⟨g,783+n*31+30,ab⟩ (ak (U ⟨gg,0,ab⟩) (L0+1) bS))/\bi g wL y (aO E n (ak (U ⟨gg,0,ab⟩) (L0+1) bS)) y W (w2.setCell ⟨g,783+n*31+30,ab⟩ (ak (U ⟨gg,0,ab⟩) (L0+1) bS))):=aa (fun gg bS w2 ho qd bE=>by
            have hm:=hA.bP n u (l:=(d.T n).bP++[a]) (v':=ak (U ⟨gg,0,ab⟩) (L0+1) bS) (by rw[<-CN];exact qd) (fun b hb=>by
             simp only[Value.ownBlock,Option.some.injEq]at hb;subst hb;rw[<-CN];rcases bE with h|h;.exact .inl h
             .refine .inr ?_;rw[h,bA];exact aA _) (by rw[cl,gH,agk,<-Aa];exact ho);rw[show d1.T n=d.T n from congrFun uK.out n]at hm;exact⟨hm.1,la.out.trans ((bi.bk E y (ai Y _)).trans hm.2)⟩);have aoi:Hid (∀(gg bS:Nat)(w2:ac),DX g P (d1.put n {d.T n with bP:=(d.T n).bP++[a]}) (aO E n (ak (U ⟨gg,0,ab⟩) (L0+1) bS)) y (w2.setCell ⟨g,783+n*31+30,ab⟩ (ak (U ⟨gg,0,ab⟩) (L0+1) bS))->bi g wL y (aO E n (ak (U ⟨gg,0,ab⟩) (L0+1) bS)) y W (w2.setCell ⟨g,783+n*31+30,ab⟩ (ak (U ⟨gg,0,ab⟩) (L0+1) bS))->(w2.setCell ⟨g,783+n*31+30,ab⟩ (ak (U ⟨gg,0,ab⟩) (L0+1) bS)).cell? ⟨g,783+n*31+9+i,ab⟩=U (I ah ((d.T n).dI i:Nat))/\(w2.setCell ⟨g,783+n*31+30,ab⟩ (ak (U ⟨gg,0,ab⟩) (L0+1) bS)).frozen? ⟨g,783+n*31+9+i,ab⟩=false/\Hid (DX g P (d1.put n {d.T n with dI:=aO (d.T n).dI i a,bP:=(d.T n).bP++[a]}) (aO E n (ak (U ⟨gg,0,ab⟩) (L0+1) bS)) y ((w2.setCell ⟨g,783+n*31+30,ab⟩ (ak (U ⟨gg,0,ab⟩) (L0+1) bS)).setCell ⟨g,783+n*31+9+i,ab⟩ (I ah (a:Nat))))/\Hid (bi g wL y (aO E n (ak (U ⟨gg,0,ab⟩) (L0+1) bS)) y W ((w2.setCell ⟨g,783+n*31+30,ab⟩ (ak (U ⟨gg,0,ab⟩) (L0+1) bS)).setCell ⟨g,783+n*31+9+i,ab⟩ (I ah (a:Nat))))):=aa (fun gg bS w2 q h2=>by refine⟨by rw[oy (783+n*31),q.th n (9+i) u (by omega),iK,Uy _ _ _ am],q.b5 _,aa ?_,aa (h2.trans (bi.set (g:=g) _ y _ _ _))⟩;exact q.Rf (9+i) u (by omega) (783+n*31+9+i) (by omega) (I ah (a:Nat)) {d.T n with dI:=aO (d.T n).dI i a,bP:=(d.T n).bP++[a]} J (fun j hj=>adW {d.T n with bP:=(d.T n).bP++[a]} _ i a am j hj));have HLQ:=aa Aa;clear hA CN Aa HY la HD HF;go_wp2_with(first|(refine wpList_append_lies _ J _ _ _ J 0 65 eq _ 1 8 underlying74 d8 dh dD dz J (by omega) v0 L0 (qf (d.T n).bP) J lc.out ⟨Y.heap.size,0,ab⟩ 1 1 [I ah (a:Nat)] J J (World.news_of_block mX.out) (by intro ay hu;simp only[jB]at hu;subst hu;rfl) (by omega) (by simp only[maxLen];omega) (by omega) (by omega) (Y.heap.size+1) (by rw[bA]) ?_;intro gg bS w2 du bU bE d6;have HX:=aa (uu.out gg bS w2 du bU bE);obtain⟨jT,j7⟩:=aqx.out w2 bU;obtain⟨wQ,f9,gv,am5⟩:=aoi.out gg bS w2 HX.out.1 HX.out.2;clear du bU bE d6));go_round;case rel=>exact⟨i+1,_,_,by omega,by go_num,gv,am5,aa ⟨by rw[iK];exact HI.out.1,fun j hj=>by rw[iK];exact HI.out.2.1 j (by omega),by rw[iK];show((d.T n).bP++[a]).length<=_;rw[cl,gH];have:=HI.out.2.2.1;omega,by rw[iK];intro x hx;rcases List.mem_append.1 (show x∈(d.T n).bP++[a]from hx)with q|q;(.exact HI.out.2.2.2.1 x q);(.rw[jB.1 q];exact M6),by show d1.aX.length<=_;rw[Ct.out];exact HI.out.2.2.2.2.1,HV.out⟩⟩
           case measure=>simp[intOf];omega
   .as_aux_lemma=>
     have aor:(kd:Int)<2:=by omega
     have HV:=aa (show(d.T n).b'.nr=nr/\M4 (d.T n) (i+1)/\(d.T n).bP.length<=i+1/\(∀x∈(d.T n).bP,x<18446744073709551616)/\d.aX.length<=1000000/\n8 n (lL nr (i+1)) d=bd from⟨HI.out.1,fun j hj=>HI.out.2.1 j (by omega),by have:=HI.out.2.2.1;omega,HI.out.2.2.2.1,HI.out.2.2.2.2.1,by rw[<-aaG am (by rw[<-fg];exact gG)];exact HI.out.2.2.2.2.2⟩);clear fg gG HI;go_wp2_with(go_at_call 47;refine(qr _).mono ?_;rintro e w'⟨rfl,hw⟩;rw[hw];clear hw w');go_round;case rel=>exact⟨i+1,d,E,by omega,by go_num,HD,HF,HV⟩
     case measure=>simp[intOf];omega
  .as_aux_lemma=>
    have hl:¬(i:Int)<4:=by omega
    have h4:i=4:=by omega
    have HV:=aa (show bd=d.put n {d.T n with phase:=5}by rw[<-HI.out.2.2.2.2.2,h4,Uu];rfl);have cp:=HD.out.phase n u;have Cp:=HD.out.b5 (783+n*31);have HS:=aa (HD.out.sk n 5 u);clear h4 am HI;go_wp2;go_end0;rw[HV.out];exact⟨J,E,y,HS.out,HF.out.trans (bi.set E y _ _ _)⟩
theorem alp{p:bj}{t:TH}{ay:DT}(hT:yi p t)(ht:AE t ay):yC ay:=⟨by rw[ht.bP];unfold vb;rw[List.length_map];exact bL (List.length_filter_le _ _) (by simp),fun x hx=>by rw[ht.bP]at hx;unfold vb at hx;obtain⟨i,_,rfl⟩:=List.mem_map.1 hx;exact hT.aY i⟩
def PH(g:Nat)(P:PV)(r:WS×Bool×Nat)(E:Nat->ag)(y:ag)(W:ac)(e:Ending)(w':ac):Prop:=e=aq (az #[.bool r.2.1,I R (r.2.2:Nat)])/\∃d' sv' a8,ie r.1 d'/\DX g P d' sv' a8 w'/\bi g E y sv' a8 W w'
theorem ag6{g:Nat}{P:PV}{d:bC}{E:Nat->ag}{y:ag}{W:ac}{s:WS}(n:Int)(hp:cM P.p=0)(bh:l3 P.p)(hi:dT P.p s)(ht:ie s d)(h:DX g P d E y W)(cQ:d.aX.length<=1000000):ap ae 46 #[av (U ⟨g,0,ab⟩),I R n] W (PH g P (gA P.p n s) E y W):=by
 by_cases u:0<=n/\n<3
 .obtain⟨k,rfl⟩:∃k:Nat,n=k:=⟨n.toNat,by omega⟩;have z:k<3:=by omega
  have hT:=hi.cg k z;have hu:=ht.cg k z;have bv:=hu.phase;have K3:=alp hT hu;have QW:=aoO hp hi ht z;have F:gA P.p k s=if(s.T k).phase=6 then(s,false,8)else if(s.T k).phase=0 then(s,false,0)else(fb P.p k s,true,0):=by unfold gA;rw[if_pos u,d_]
  rw[F];have go:∀(ph:Nat),(s.T k).phase=ph->ph≠6->ph≠0->(ap ae 46 #[av (U ⟨g,0,ab⟩),I R k] W fun e w'=>e=aq (az #[.bool true,I R 0])/\∃sv' a8,DX g P (iR P.p k d) sv' a8 w'/\bi g E y sv' a8 W w')->ap ae 46 #[av (U ⟨g,0,ab⟩),I R k] W (PH g P (if(s.T k).phase=6 then(s,false,8)else if(s.T k).phase=0 then(s,false,0)else(fb P.p k s,true,0)) E y W):=by intro ph h0 h6 Sw H;rw[if_neg (by omega),if_neg (by omega)];exact H.mono fun e w'⟨he,sv',a8,q,h2⟩=>⟨he,iR P.p k d,sv',a8,QW,q,h2⟩
  rcases Pt hT.ph with h0|h0|h0|h0|h0|h0|h0;.rw[if_neg (by omega),if_pos h0];exact(an1 k z (bv.trans h0) h).mono fun e w'⟨he,hw⟩=>⟨he,d,E,y,ht,by rw[hw];exact h,by rw[hw];exact bi.refl _ _ _ _⟩
  .refine go 1 h0 (by omega) (by omega) ?_;rw[show iR P.p k d=BY P.p k d by unfold iR;simp only[bv,h0]];have JB:=hT.SK h0;refine(ad8 k z hp bh (by rw[hu.call];exact hT.kl) (bv.trans h0) (fun i h4=>?_) h cQ K3).mono fun e w' hg=>hg;rw[hu.dI i h4,hu.call,JB];rfl
  .refine go 2 h0 (by omega) (by omega) ?_;rw[show iR P.p k d=At k d by unfold iR;simp only[bv,h0]];have h8:=hT.zh (by omega) (by omega);obtain⟨jr,hf⟩:=hT.GN h0;obtain⟨AB,AK,_⟩:=hu.a6 h0;have hm:dP (s.T k)∈bx (s.T k).call.nr:=by unfold dP;rw[List.getD_eq_getElem?_getD,List.getElem?_eq_getElem jr];exact List.getElem_mem jr
   obtain⟨_,mP,nn⟩:=sj hm;refine afk k z (bv.trans h0) h ((adb k z (by rw[hu.call];exact h8) (by rw[AB];exact mP) (by rw[hu.call,AB];exact nn) (by
    rw[AB,AK];rcases nn with h2|h3;.exact(hf.2 (by omega)).1
    .have:=hf.1 h3;omega) (by rw[ht.mem];exact hi.mem.uX.bytes) h cQ K3).mono fun e w' hg=>hg)
  .refine go 3 h0 (by omega) (by omega) ?_;rw[show iR P.p k d=tE k (ir P.p (d.T k).b' (eY (d.T k).aG)) 4 d by unfold iR;simp only[bv,h0]];exact(ad9 k z hp bh (by rw[hu.call];exact hT.kl) (by rw[hu.aG];exact(hT.oH (by omega) (by omega)).vs) (bv.trans h0) h cQ K3).mono fun e w' hg=>hg
  .refine go 4 h0 (by omega) (by omega) ?_;rw[show iR P.p k d=n8 k (bx (d.T k).b'.nr) d by unfold iR;simp only[bv,h0]];have h8:=hT.zh (by omega) (by omega);have g9:=(hT.plain (by omega)).1;refine adm k z (bv.trans h0) h ((adD k z (by rw[hu.call];exact h8) (fun j _ hj gG=>?_) ?_ h cQ).mono fun e w' hg=>hg);.rw[hu.call]at gG⊢;rw[hu.aG];have:=((hT.oH (by omega) (by omega)) j).1;rw[(hT.MN (by omega) (by omega)).1,sE]at this;exact this (Uh h8 hj gG)
   .rw[hu.bP];unfold vb;rw[show(fun i=>(s.T k).bV i)=fun _=>false from funext g9];simp
  .refine go 5 h0 (by omega) (by omega) ?_;rw[show iR P.p k d=xE k d by unfold iR;simp only[bv,h0]];have oI:=hT.kl;have CM:∀i,i<4->(d.T k).dI i<18446744073709551616:=fun i h4=>by rw[hu.dI i h4];exact hT.aY i
   refine ai2 k z (bv.trans h0) h ((akh k z ⟨by show(d.T k).b'.ej<_;rw[hu.call];exact oI.ej,by show(d.T k).b'.nr<_;rw[hu.call];exact oI.nr,CM 0 (by omega),CM 1 (by omega),CM 2 (by omega),CM 3 (by omega)⟩ h cQ K3).mono fun e w' hg=>hg)
  .rw[if_pos h0];exact(agV k z (bv.trans h0) h).mono fun e w'⟨he,hw⟩=>⟨he,d,E,y,ht,by rw[hw];exact h,by rw[hw];exact bi.refl _ _ _ _⟩
 .have F:gA P.p n s=(s,false,1):=by unfold gA;rw[if_neg u]
  rw[F];exact(alW g n u).mono fun e w'⟨he,hw⟩=>⟨he,d,E,y,ht,by rw[hw];exact h,by rw[hw];exact bi.refl _ _ _ _⟩
theorem amC{g:Nat}{P:PV}{d:bC}{E:Nat->ag}{y:ag}{W:ac}{s:WS}(n:Int)(c:KL)(ht:ie s d)(h:DX g P d E y W):ap ae 25 #[av (U ⟨g,0,ab⟩),I R n,cR c] W fun e w'=>e=aq (I R ((iu n c s).2:Nat))/\∃d' sv',ie (iu n c s).1 d'/\DX g P d' sv' y w'/\bi g E y sv' y W w':=by
 by_cases u:0<=n/\n<3
 .obtain⟨k,rfl⟩:∃k:Nat,n=k:=⟨n.toNat,by omega⟩;have z:k<3:=by omega
  have bv:=(ht.cg k z).phase;have F:iu k c s=if(s.T k).phase=6 then(s,8)else if(s.T k).phase=0 then(s.put k (ui c),0)else(s,7):=by unfold iu;rw[if_pos u,d_]
  rw[F];by_cases h6:(s.T k).phase=6;.rw[if_pos h6];exact(aja k z c (bv.trans h6) h).mono fun e w'⟨he,hb⟩=>⟨he,d,E,ht,h.au hb,bi.bk E y hb⟩
  .rw[if_neg h6];by_cases h0:(s.T k).phase=0;.rw[if_pos h0];exact(agB k z c (bv.trans h0) h).mono fun e w'⟨he,sv',q,h2⟩=>⟨he,_,sv',ht.put k (agl c),q,h2⟩
   .rw[if_neg h0];exact(ain k z c (by rw[bv];exact h0) (by rw[bv];exact h6) h).mono fun e w'⟨he,hb⟩=>⟨he,d,E,ht,h.au hb,bi.bk E y hb⟩
 .have F:iu n c s=(s,1):=by unfold iu;rw[if_neg u]
  rw[F];exact(adh g n c u).mono fun e w'⟨he,hb⟩=>⟨he,d,E,ht,h.au hb,bi.bk E y hb⟩
theorem ie.me{s:WS}{d:bC}(h:ie s d)(m:MS):ie {s with mem:=m} {d with mem:=m}:=⟨h.cg,J,h.aX⟩
end Go.Proofs.YtefdakbahplnbaaGreatDoor
namespace Go.Proofs.YtefdakbahplnbaaGreatDoor
open Go.RowKit
variable{p:bj}{gd:Nat}{aE:PV}{d:bC}{E:Nat->ag}{ld:ag}{s:WS}{K:Nat}{X:ac}
structure en(p:bj)(gd:Nat)(aE:PV)(d:bC)(E:Nat->ag)(ld:ag)(s:WS)(K:Nat)(X:ac):Prop where
 iQ:DX gd aE d E ld X
 tie:ie s d
 mc:oY p K s
 yg:aE.p=p
 pf:cM p=0
 pk:l3 p
theorem en.au{Y:ac}(h:en p gd aE d E ld s K X)(hb:Below X.heap.size X Y):en p gd aE d E ld s K Y:=⟨h.iQ.au hb,h.tie,h.mc,h.yg,h.pf,h.pk⟩
theorem en.cx{K':Nat}(h:en p gd aE d E ld s K X)(z:K<=K'):en p gd aE d E ld s K' X:=⟨h.iQ,h.tie,h.mc.cx z,h.yg,h.pf,h.pk⟩
def Fz(p:bj)(gd:Nat)(aE:PV)(E:Nat->ag)(ld:ag)(r:WS×W8)(K:Nat)(X:ac)(e:Ending)(w':ac):Prop:=e=aq (ad (bs r.2))/\∃d' sv' wI,en p gd aE d' sv' wI r.1 K w'/\bi gd E ld sv' wI X w'
theorem an4(n:Int):(gA p n s).2.2<=100:=by
 unfold gA;repeat' split
 .exact(by decide:8<=100)
 .exact oz _
 .exact oz _
 .exact(by decide:1<=100)
theorem aoK(n:Nat)(h:(gA p n s).2.1=true):n<3:=by
 unfold gA at h;split at h;.omega
 .cases h
set_option maxHeartbeats 4000000 in set_option maxRecDepth 20000 in theorem ajv(h:en p gd aE d E ld s K X)(A:K<=500000)(n t:Nat):ap ae 30 #[av (U ⟨gd,0,ab⟩),I R n,I R t] X fun e w'=>Fz p gd aE E ld (oJ p n (min t 1000) 0 s) (K+1000) X e w':=by
 obtain⟨bd,hR⟩:=af (oJ p n (min t 1000) 0 s);rw[<-hR];obtain⟨T,hT⟩:=af (min t 1000);rw[<-hT]at hR;have D5:=hT;have hT3:T<=1000:=by omega
 have lC:=aa hT;have HR:=aa hR;have HS:=aa h;clear hR hT h D5;go_enter func30,ntmps30;go_wp2_with fail;go_loopw[7](fun C wr=>∃(i:Nat)(d2:bC)(v2:Nat->ag)(l2:ag)(s2:WS),i<=T/\C=I R i/\Hid (oJ p n (T-i) i s2=bd)/\Hid (en p gd aE d2 v2 l2 s2 (K+i) wr)/\Hid (bi gd E ld v2 l2 X wr))(fun C _=>T-(intOf C).toNat);case atStart=>exact⟨0,d,E,ld,s,by omega,J,aa HR.out.symm,HS,aa (bi.refl _ _ _ _)⟩
 case round=>
  obtain⟨i,d2,v2,l2,s2,hi,rfl,HN,HW,HF⟩:=hrel;clear HS HR;have fd:=fun(m:Nat)(hm:m<=100000)Y=>D6 m (by omega) Y;by_cases am:i<T
  .have hl:(i:Int)<t:=by have:=lC.out;omega
   have Ap:(i:Int)<1000:=by omega
   have hN:=HN.out;rw[show T-i=(T-i-1)+1 by omega]at hN;unfold oJ at hN;have wh:=HW.out.yg;have fz:=ag6 n (by rw[wh];exact HW.out.pf) (by rw[wh];exact HW.out.pk) (by rw[wh];exact HW.out.mc.lO) HW.out.tie HW.out.iQ (by rw[HW.out.tie.aX];have:=HW.out.mc.aX;omega);unfold PH at fz;rw[wh]at fz;have xD:=aa (HW.out.mc.step HW.out.pf HW.out.pk n);have CG:=an4 (p:=p) (s:=s2) (n:Int);have dV:=aoK (p:=p) (s:=s2) n;obtain⟨r,L⟩:=af (gA p n s2);rw[<-L]at hN fz xD CG dV;obtain⟨s3,QF,f⟩:=r;simp only at hN fz xD CG dV;have jn:=aa hN;have Md:=aa (bQ HW.out.yg (bQ HW.out.pf HW.out.pk));clear hN L wh HN;go_wp2_with fail;refine fz.mono ?_;rintro e Y⟨rfl,d3,v3,mS,h0,q,h2⟩;have p6:=aa (show en p gd aE d3 v3 mS s3 (K+i+1) Y from⟨q,h0,xD.out,Md.out.1,Md.out.2.1,Md.out.2.2⟩);have jL:=aa (HF.out.trans h2);clear h0 q h2 fz xD HW HF Md;by_cases M:f=0
   .subst M;have hN:=jn.out;rw[if_neg (fun h=>h J)]at hN;cases QF with
     |false=>as_aux_lemma=>rw[if_pos J]at hN;have HI:=fd i (by omega) Y;subst hN;obtain⟨B,N⟩:=af (bs (Lib.decDigits i));rw[<-N]at HI;have HQ:=aa N;clear N jn fd;go_wp2_with(go_at_call 28;refine HI.mono ?_;rintro e aK⟨rfl,hZ⟩;have HZ:=aa hZ;clear hZ);go_ret;exact⟨by rw[HQ.out];rfl,d3,v3,mS,(p6.out.au HZ.out).cx (by omega),jL.out.trans (bi.bk _ _ HZ.out)⟩
     |true=>
      rw[if_neg (by decide)]at hN;have yU:=dV J;have qk:(n:Int)<3:=by omega
      have yb:(0:Int)<=n:=by omega
      have bv:=p6.out.iQ.phase n yU;have nN:=aa (show mr n s3=(d3.T n).phase by unfold mr;rw[if_pos ⟨yb,qk⟩,d_];exact(p6.out.tie.cg n yU).phase.symm);by_cases h6:mr n s3=6;.as_aux_lemma=>rw[if_pos h6]at hN;rw[<-nN.out,h6]at bv;have HI:=fd (i+1) (by omega) Y;subst hN;obtain⟨B,N⟩:=af (bs (Lib.decDigits (i+1)));rw[<-N]at HI;have HQ:=aa N;rw[show((i+1:Nat):Int)=(i:Int)+1 by omega]at HI;clear N jn fd;go_wp2_with(go_at_call 28;refine HI.mono ?_;rintro e aK⟨rfl,hZ⟩;have HZ:=aa hZ;clear hZ);go_ret;exact⟨by rw[HQ.out];rfl,d3,v3,mS,(p6.out.au HZ.out).cx (by omega),jL.out.trans (bi.bk _ _ HZ.out)⟩
      .as_aux_lemma=>
        rw[if_neg h6]at hN;have yP:=aa (show oJ p n (T-(i+1)) (i+1) s3=bd by rw[show T-(i+1)=T-i-1 by omega];exact hN);obtain⟨ph,ST⟩:=af (mr n s3);rw[<-nN.out,<-ST]at bv;rw[<-ST]at h6;have Vu:¬(ph:Int)=6:=by omega
        clear ST hN jn fd h6 nN;go_wp2;go_round;case rel=>exact⟨i+1,d3,v3,mS,s3,by omega,by go_num,yP,aa (p6.out.cx (by omega)),jL⟩
        case measure=>simp[intOf];omega
   .as_aux_lemma=>
     have hN:=jn.out;rw[if_pos M]at hN;have dn:(0:Int)<f:=by omega
     have gN:=OH f CG Y;subst hN;obtain⟨B,N⟩:=af (bs (nH f));rw[<-N]at gN;have HQ:=aa N;clear fd jn N;go_wp2_with(go_at_call 18;refine gN.mono ?_;rintro e aK⟨rfl,hZ⟩;have HZ:=aa hZ;clear hZ);go_ret;exact⟨by rw[HQ.out];rfl,d3,v3,mS,(p6.out.au HZ.out).cx (by omega),jL.out.trans (bi.bk _ _ HZ.out)⟩
  .as_aux_lemma=>
    obtain rfl:i=T:=by omega
    have hN:=HN.out;rw[Nat.sub_self]at hN;have HI:=fd i (by omega) wr;subst hN;obtain⟨B,N⟩:=af (bs (Lib.decDigits i));rw[<-N]at HI;have HQ:=aa N;clear N fd HN;by_cases Re:(i:Int)<t
    .have apt:¬(i:Int)<1000:=by have:=lC.out;omega
     go_wp2_with(go_at_call 28;refine HI.mono ?_;rintro e aK⟨rfl,hZ⟩;have HZ:=aa hZ;clear hZ);go_ret;exact⟨by rw[HQ.out];rfl,d2,v2,l2,(HW.out.au HZ.out).cx (by omega),HF.out.trans (bi.bk _ _ HZ.out)⟩
    .go_wp2_with(go_at_call 28;refine HI.mono ?_;rintro e aK⟨rfl,hZ⟩;have HZ:=aa hZ;clear hZ);go_ret;exact⟨by rw[HQ.out];rfl,d2,v2,l2,(HW.out.au HZ.out).cx (by omega),HF.out.trans (bi.bk _ _ HZ.out)⟩
end Go.Proofs.YtefdakbahplnbaaGreatDoor
namespace Go.Proofs.YtefdakbahplnbaaGreatDoor
open Go.RowKit Mm
def Mu(g O:Nat)(y:ag)(k:Nat):Prop:=k=g\/k=O\/y.ownBlock=U k
def vN(g:Nat)(E:Nat->ag)(y:ag)(k:Nat):Prop:=k=g\/y.ownBlock=U k\/∃n,n<3/\(E n).ownBlock=U k
structure Fw(T:Nat->Prop)(X Y:ac):Prop where
 os:Y.os=X.os
 tape:Y.tape=X.tape
 output:Y.output=X.output
 size:X.heap.size<=Y.heap.size
 block:∀k,k<X.heap.size->¬T k->Y.heap[k]?=X.heap[k]?
theorem bi.tch{g:Nat}{E sv':Nat->ag}{y a8:ag}{X Y:ac}(h:bi g E y sv' a8 X Y):Fw (vN g E y) X Y:=⟨h.os,h.tape,h.output,h.size,fun k z u=>h.block k z (fun e=>u (.inl e)) (fun e=>u (.inr (.inl e))) (fun n h3 e=>u (.inr (.inr ⟨n,h3,e⟩)))⟩
theorem Ms{W V:ac}{base e size n:Nat}{v:ag}{xs:List ag}(h:W.ownsRow base e size v n xs)(hb:∀k,v.ownBlock=U k->V.heap[k]?=W.heap[k]?):V.ownsRow base e size v n xs:=by
 obtain⟨q,h2⟩:=h;refine⟨q,?_⟩;rcases h2 with h2|⟨gl,cap,co,rfl,h3,eV,h4⟩;.exact .inl h2
 .exact .inr ⟨gl,cap,co,J,h3,(hb gl J).trans eV,h4⟩
theorem DX.UZ{g:Nat}{P:PV}{d:bC}{E:Nat->ag}{y:ag}{X:ac}(h:DX g P d E y X){k:Nat}(z:vN g E y k):k<X.heap.size:=by
 rcases z with rfl|z|⟨n,u,z⟩;.exact h.gh
 .exact(h.cW.lt k z).2
 .exact((h.oM n u).lt k z).2
theorem DX.MV{g:Nat}{P:PV}{d:bC}{E:Nat->ag}{y:ag}{X Y:ac}{T:Nat->Prop}(h:DX g P d E y X)(ht:Fw T X Y)(hd:∀k,T k->¬vN g E y k/\P.cF<=k):DX g P d E y Y:=by have hb:∀k,vN g E y k->Y.heap[k]?=X.heap[k]?:=fun k z=>ht.block k (h.UZ z) (fun e=>(hd k e).1 z);have kP:=h.cF;exact⟨h.mem.imp fun r L=>⟨(hb g (.inl J)).trans L.1,L.2⟩,Ms h.cW (fun k z=>hb k (.inr (.inl z))),fun n u=>Ms (h.oM n u) (fun k z=>hb k (.inr (.inr ⟨n,u,z⟩))),h.nl,h.mF,bL h.cF ht.size,fun cv hU F=>h.iv cv (fun k z n1 n2 vM=>(hU k z n1 n2 vM).trans (ht.block k (by omega) (fun e=>by have:=(hd k e).2;omega))) F⟩
structure DA(p:bj)(V:ac)(g O:Nat)(P:PV)(y:ag)(s:WS)(K:Nat)(gd:Nat)(aE:PV)(E:Nat->ag)(ld:ag)(d:bC)(X:ac):Prop where
 w:WX g O P s y X
 ap3:P.p=p
 yg:aE.p=p
 lO:dT p s
 aX:s.aX.length<=K
 below:Below V.heap.size V X
 iQ:DX gd aE d E ld X
 ap1:aE.cF<=V.heap.size/\V.heap.size<=P.cF
 vn:∀k,Mu g O y k->P.cF<=k
 En:∀k,vN gd E ld k->P.cF<=k
 mF:∀k,Mu g O y k->¬vN gd E ld k
end Go.Proofs.YtefdakbahplnbaaGreatDoor
