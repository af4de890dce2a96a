/- The document's Step: phases 1 and 3, and the others' frame. -/
import Derived.Test.YtefdakbahplnbaaGreatDoorK32
import Derived.Test.YtefdakbahplnbaaGreatDoorK22
import Derived.Test.YtefdakbahplnbaaGreatDoorK25
import Derived.Test.YtefdakbahplnbaaGreatDoorK29
open Go.Proofs.Tryz
open And renaming intro->bQ
open Array renaming getElem?_eq_some_iff->bM,toArray_toList->ze
open ByteArray renaming empty->fH
open Go renaming Calls->ap,Value->ag,World->ac,bodyPost_ret->ba,cell_of_row->aT,frozen_of_row->cy,heap_alloc_new->a7,setRow_heap->aV,wpAny_done->dH,wpList_load_row->vC,wpList_store_row->bK,wp_load_mid->FQ,wp_region_any->mj,wp_store_row->TZ
open Go.Act renaming put->ar
open Go.Ending renaming returned->aq
open Go.IntKind renaming i64->R,u32->aj,u64->ah,wrap->AX,wrap_i64->jP
open Go.Proofs.Tryz renaming prog->ae
open Go.RowKit renaming Below->aD
open Go.RowKit.Below renaming refl->aS
open Go.Value renaming agg->aw,bool->aH,int->I,pointer->av,slice->ak,string->ad,tuple->az
open Go.World renaming drew->ll,size_alloc->bA
open List renaming filter->T5,range->tX
open Nat renaming le_refl->aA,lt_succ_self->tV
open Option renaming none->ab,some->U
namespace Go.Proofs.YtefdakbahplnbaaGreatDoor
open Go.RowKit Mm
def VW(g:Nat)(P:PV)(d':bC)(E:Nat->ag)(y:ag)(W:ac)(b:Bool)(f:Int)(e:Ending)(w':ac):Prop:=e=aq (az #[aH b,I R f])/\∃sv' a8,DX g P d' sv' a8 w'/\bi g E y sv' a8 W w'
theorem alW{W:ac}(g:Nat)(n:Int)(M:¬(0<=n/\n<3)):ap ae 46 #[av (U ⟨g,0,ab⟩),I R n] W fun e w'=>e=aq (az #[aH false,I R 1])/\w'=W:=by
 by_cases h0:n<0;.go_enter func46,ntmps46;go_wp2;go_ret2;exact⟨J,J⟩
 .have h2:2<n:=by omega
  go_enter func46,ntmps46;go_wp2;go_ret2;exact⟨J,J⟩
theorem an1{g:Nat}{P:PV}{d:bC}{E:Nat->ag}{y:ag}{W:ac}(n:Nat)(u:n<3)(N:(d.T n).phase=0)(h:DX g P d E y W):ap ae 46 #[av (U ⟨g,0,ab⟩),I R n] W fun e w'=>e=aq (az #[aH false,I R 0])/\w'=W:=by
 have rU:¬(n:Int)<0:=by omega
 have j1:(0:Int)<=n:=by omega
 have j2:¬(2:Int)<n:=by omega
 have n9:(n:Int)<3:=by omega
 have cp:=h.phase n u;rw[N]at cp;clear h N;go_enter func46,ntmps46;go_wp2;go_ret2;exact⟨J,J⟩
theorem agV{g:Nat}{P:PV}{d:bC}{E:Nat->ag}{y:ag}{W:ac}(n:Nat)(u:n<3)(N:(d.T n).phase=6)(h:DX g P d E y W):ap ae 46 #[av (U ⟨g,0,ab⟩),I R n] W fun e w'=>e=aq (az #[aH false,I R 8])/\w'=W:=by
 have rU:¬(n:Int)<0:=by omega
 have j1:(0:Int)<=n:=by omega
 have j2:¬(2:Int)<n:=by omega
 have n9:(n:Int)<3:=by omega
 have cp:=h.phase n u;rw[N]at cp;clear h N;go_enter func46,ntmps46;go_wp2;go_ret2;exact⟨J,J⟩
theorem afk{g:Nat}{P:PV}{d:bC}{E:Nat->ag}{y:ag}{W:ac}{bd:ac->Prop}(n:Nat)(u:n<3)(N:(d.T n).phase=2)(h:DX g P d E y W)(G:ap ae 81 #[av (U ⟨g,0,ab⟩),I R n] W fun e w'=>e=aq (az #[])/\bd w'):ap ae 46 #[av (U ⟨g,0,ab⟩),I R n] W fun e w'=>e=aq (az #[aH true,I R 0])/\bd w':=by
 have rU:¬(n:Int)<0:=by omega
 have j1:(0:Int)<=n:=by omega
 have j2:¬(2:Int)<n:=by omega
 have n9:(n:Int)<3:=by omega
 have cp:=h.phase n u;rw[N]at cp;clear h N;go_enter func46,ntmps46;go_wp2_with fail;refine G.mono ?_;rintro e w'⟨rfl,hR⟩;go_wp2;go_ret2;exact⟨J,hR⟩
theorem adm{g:Nat}{P:PV}{d:bC}{E:Nat->ag}{y:ag}{W:ac}{bd:ac->Prop}(n:Nat)(u:n<3)(N:(d.T n).phase=4)(h:DX g P d E y W)(G:ap ae 83 #[av (U ⟨g,0,ab⟩),I R n] W fun e w'=>e=aq (az #[])/\bd w'):ap ae 46 #[av (U ⟨g,0,ab⟩),I R n] W fun e w'=>e=aq (az #[aH true,I R 0])/\bd w':=by
 have rU:¬(n:Int)<0:=by omega
 have j1:(0:Int)<=n:=by omega
 have j2:¬(2:Int)<n:=by omega
 have n9:(n:Int)<3:=by omega
 have cp:=h.phase n u;rw[N]at cp;clear h N;go_enter func46,ntmps46;go_wp2_with fail;refine G.mono ?_;rintro e w'⟨rfl,hR⟩;go_wp2;go_ret2;exact⟨J,hR⟩
theorem ai2{g:Nat}{P:PV}{d:bC}{E:Nat->ag}{y:ag}{W:ac}{bd:ac->Prop}(n:Nat)(u:n<3)(N:(d.T n).phase=5)(h:DX g P d E y W)(G:ap ae 84 #[av (U ⟨g,0,ab⟩),I R n] W fun e w'=>e=aq (az #[])/\bd w'):ap ae 46 #[av (U ⟨g,0,ab⟩),I R n] W fun e w'=>e=aq (az #[aH true,I R 0])/\bd w':=by
 have rU:¬(n:Int)<0:=by omega
 have j1:(0:Int)<=n:=by omega
 have j2:¬(2:Int)<n:=by omega
 have n9:(n:Int)<3:=by omega
 have cp:=h.phase n u;rw[N]at cp;clear h N;go_enter func46,ntmps46;go_wp2_with fail;refine G.mono ?_;rintro e w'⟨rfl,hR⟩;go_wp2;go_ret2;exact⟨J,hR⟩
def i_(t:DT):KL:=⟨t.b'.ej,t.b'.nr,t.dI 0,t.dI 1,t.dI 2,t.dI 3⟩
theorem ale{t:DT}(h:∀i,i<4->t.dI i=fk t.b' i):i_ t=t.b':=by unfold i_;rw[h 0 (by omega),h 1 (by omega),h 2 (by omega),h 3 (by omega)];rfl
theorem DX.Y6{g:Nat}{P:PV}{d:bC}{E:Nat->ag}{y:ag}{W:ac}(h:DX g P d E y W)(n:Nat)(u:n<3):W.cell? ⟨g,783+n*31+7,ab⟩=U (I aj (i_ (d.T n)).ej)/\W.cell? ⟨g,783+n*31+8,ab⟩=U (I aj (i_ (d.T n)).nr)/\W.cell? ⟨g,783+n*31+9,ab⟩=U (I ah (i_ (d.T n)).a0)/\W.cell? ⟨g,783+n*31+10,ab⟩=U (I ah (i_ (d.T n)).bR)/\W.cell? ⟨g,783+n*31+11,ab⟩=U (I ah (i_ (d.T n)).a2)/\W.cell? ⟨g,783+n*31+12,ab⟩=U (I ah (i_ (d.T n)).a3):=⟨h.th n 7 u (by omega),h.th n 8 u (by omega),h.th n 9 u (by omega),h.th n 10 u (by omega),h.th n 11 u (by omega),h.th n 12 u (by omega)⟩
theorem DX.Oz{g:Nat}{P:PV}{d:bC}{E:Nat->ag}{y:ag}{W:ac}(h:DX g P d E y W)(n:Nat)(u:n<3):W.rangeAt g (783+n*31+7) (bX (i_ (d.T n))).toList:=fun j v hv=>by have hj:j<6:=(List.getElem?_eq_some_iff.1 hv).1;rw[show 783+n*31+7+j=783+n*31+(7+j)by omega,h.th n (7+j) u (by omega),<-hv];rcases show j=0\/j=1\/j=2\/j=3\/j=4\/j=5 by omega with rfl|rfl|rfl|rfl|rfl|rfl<;>rfl
set_option maxHeartbeats 4000000 in set_option maxRecDepth 20000 in theorem ad8{g:Nat}{P:PV}{d:bC}{E:Nat->ag}{y:ag}{W:ac}(n:Nat)(u:n<3)(hp:cM P.p=0)(bh:l3 P.p)(z:hc (d.T n).b')(N:(d.T n).phase=1)(CM:∀i,i<4->(d.T n).dI i=fk (d.T n).b' i)(h:DX g P d E y W)(cQ:d.aX.length<=1000000)(im:yC (d.T n)):ap ae 46 #[av (U ⟨g,0,ab⟩),I R n] W (VW g P (BY P.p n d) E y W true 0):=by
 have rU:¬(n:Int)<0:=by omega
 have j1:(0:Int)<=n:=by omega
 have j2:¬(2:Int)<n:=by omega
 have n9:(n:Int)<3:=by omega
 have cp:=h.phase n u;rw[N]at cp;obtain⟨k,eQ⟩:=af (d.T n).b';have qM:i_ (d.T n)=k:=by rw[eQ];exact ale CM
 rw[<-eQ]at z;have HJ:=fun X hX=>Vd P.p bh P.oa P.cap k z X hX;have my:=Iv hp k;have Bd:(eA P.p k).1.aF=4->k.nr<=8:=fun e=>(Tw hp e).1;have m5:=aa (show BY P.p n d=if(eA P.p k).1.aF=4 then d.put n {d.T n with phase:=2,a6:=ji k.nr 0}else tE n (eA P.p k).1 5 d by rw[eQ];rfl);obtain⟨⟨⟨aN,aP⟩,SH⟩,hv⟩:=af (eA P.p k);rw[<-hv]at HJ my m5 Bd;unfold sZ fV ep cR bX at HJ;simp only at HJ my m5 Bd;have c0:W.cell? ⟨g,0,ab⟩=U (ak P.oa P.p.bw.length P.cap):=h.cell 0 (by omega) (.inl (by omega));have c1:W.cell? ⟨g,1,ab⟩=U (I R P.p.bg.aF):=h.cell 1 (by omega) (.inl (by omega));have c2:W.cell? ⟨g,2,ab⟩=U (I R P.p.bg.aU):=h.cell 2 (by omega) (.inl (by omega));obtain⟨x1,x2,x3,x4,x5,x6⟩:=h.Y6 n u;rw[qM]at x1 x2 x3 x4 x5 x6;have hI:=h.SF;have HI:=aa (hI.au (aS _ W).drew);have j4:=aa (hI.au (ai W (.cells #[I R 0,I R 0,I R 0] 95)).drew);have HH:=aa h;have HNK:=aa qM;have dW:g≠W.heap.size:=Nat.ne_of_lt h.gh;have zb:(W.alloc (.cells #[I R 0,I R 0,I R 0] 95)).drew.heap[W.heap.size]?=U (.cells #[I R 0,I R 0,I R 0] 95 (0,0)):=a7 W _;have kb:=fun{b o v}(H:W.cell? ⟨b,o,ab⟩=U v)=>ao (ai W (.cells #[I R 0,I R 0,I R 0] 95)) H;have rE:=kb c0;have sg:=kb c1;have rG:=kb c2;have u_:=kb x1;have aqu:=kb x2;have t8:=kb x3;have uL:=kb x4;have uC:=kb x5;have uZ:=kb x6;obtain⟨pn,ig⟩:=af P.p.bw.length;obtain⟨pk,dm⟩:=af P.p.bg.aF;obtain⟨pe,iF⟩:=af P.p.bg.aU;rw[<-ig]at c0 rE;rw[<-dm]at c1 sg;rw[<-iF]at c2 rG;rw[<-ig,<-dm,<-iF]at HJ;clear kb h hI eQ hv ig dm iF z qM CM N;replace c0:W.drew.cell? _=_:=c0;replace c1:W.drew.cell? _=_:=c1;replace c2:W.drew.cell? _=_:=c2;replace x1:W.drew.cell? _=_:=x1;replace x2:W.drew.cell? _=_:=x2;replace x3:W.drew.cell? _=_:=x3;replace x4:W.drew.cell? _=_:=x4;replace x5:W.drew.cell? _=_:=x5;replace x6:W.drew.cell? _=_:=x6;replace rE:(W.alloc (.cells #[I R 0,I R 0,I R 0] 95)).drew.cell? _=_:=rE;replace sg:(W.alloc (.cells #[I R 0,I R 0,I R 0] 95)).drew.cell? _=_:=sg;replace rG:(W.alloc (.cells #[I R 0,I R 0,I R 0] 95)).drew.cell? _=_:=rG;replace u_:(W.alloc (.cells #[I R 0,I R 0,I R 0] 95)).drew.cell? _=_:=u_;replace aqu:(W.alloc (.cells #[I R 0,I R 0,I R 0] 95)).drew.cell? _=_:=aqu;replace t8:(W.alloc (.cells #[I R 0,I R 0,I R 0] 95)).drew.cell? _=_:=t8;replace uL:(W.alloc (.cells #[I R 0,I R 0,I R 0] 95)).drew.cell? _=_:=uL;replace uC:(W.alloc (.cells #[I R 0,I R 0,I R 0] 95)).drew.cell? _=_:=uC;replace uZ:(W.alloc (.cells #[I R 0,I R 0,I R 0] 95)).drew.cell? _=_:=uZ;go_enter func46,ntmps46;go_wp2_with fail;go_cut[7](fun eG wc=>∃r5:Nat,eG=av (U ⟨r5,0,ab⟩)/\Hid (aD W.heap.size W wc)/\Hid (wc.heap[r5]?=U (.cells #[I R aN,I R aP,I R SH] 95 (0,0))));case first=>as_aux_lemma=>go_region_held3(fun w'=>w'.cell? ⟨g,0,ab⟩=U (ak P.oa pn P.cap)/\w'.cell? ⟨g,1,ab⟩=U (I R pk)/\w'.cell? ⟨g,2,ab⟩=U (I R pe)/\w'.cell? ⟨g,783+n*31+7,ab⟩=U (I aj k.ej)/\w'.cell? ⟨g,783+n*31+8,ab⟩=U (I aj k.nr)/\w'.cell? ⟨g,783+n*31+9,ab⟩=U (I ah k.a0)/\w'.cell? ⟨g,783+n*31+10,ab⟩=U (I ah k.bR)/\w'.cell? ⟨g,783+n*31+11,ab⟩=U (I ah k.a2)/\w'.cell? ⟨g,783+n*31+12,ab⟩=U (I ah k.a3))(first|(with_reducible exact⟨c0,c1,c2,x1,x2,x3,x4,x5,x6⟩)|(with_reducible exact⟨rE,sg,rG,u_,aqu,t8,uL,uC,uZ⟩)|(with_reducible exact⟨r0,r1,r2,r3,r4,r5,r6,r7,r8⟩)|(with_reducible exact⟨ao (ai W.drew _) c0,ao (ai W.drew _) c1,ao (ai W.drew _) c2,ao (ai W.drew _) x1,ao (ai W.drew _) x2,ao (ai W.drew _) x3,ao (ai W.drew _) x4,ao (ai W.drew _) x5,ao (ai W.drew _) x6⟩)|(with_reducible exact⟨ao (ai Y _) r0,ao (ai Y _) r1,ao (ai Y _) r2,ao (ai Y _) r3,ao (ai Y _) r4,ao (ai Y _) r5,ao (ai Y _) r6,ao (ai Y _) r7,ao (ai Y _) r8⟩)|(with_reducible exact⟨fB dW r0,fB dW r1,fB dW r2,fB dW r3,fB dW r4,fB dW r5,fB dW r6,fB dW r7,fB dW r8⟩)|go_keep)((first|(go_at_call 27;with_reducible refine(HJ W.drew HI.out).mono ?_;rintro e Y⟨rfl,hY⟩;have S:=aa (ax (aS _ W).drew hY);have r0:=ao hY c0;have r1:=ao hY c1;have r2:=ao hY c2;have r3:=ao hY x1;have r4:=ao hY x2;have r5:=ao hY x3;have r6:=ao hY x4;have r7:=ao hY x5;have r8:=ao hY x6;clear hY)|(go_at_call 27;refine(HJ (W.alloc (.cells #[I R 0,I R 0,I R 0] 95)).drew j4.out).mono ?_;rintro e Y⟨rfl,hY⟩;have S:=aa (ax (ai W (.cells #[I R 0,I R 0,I R 0] 95)).drew hY);have r0:=ao hY rE;have r1:=ao hY sg;have r2:=ao hY rG;have r3:=ao hY u_;have r4:=ao hY aqu;have r5:=ao hY t8;have r6:=ao hY uL;have r7:=ao hY uC;have r8:=ao hY uZ;have uh:=(hY.block W.heap.size (by show _<(W.alloc _).heap.size;rw[bA];exact tV _)).trans zb;obtain⟨⟨p0,p1,p2⟩,g0,g1,g2⟩:=GK uh;clear hY)));all_goals go_wp2_with fail;go_meet;case rel=>first|with_reducible exact⟨Y.heap.size,J,aa (ax S.out (ai _ _)),aa (a7 _ _)⟩|exact⟨W.heap.size,J,aa (by rw[wK uh];exact below_setRow S.out (aA _) _),aa (by rw[wK uh];exact aV _ _ _ _ _ _ uh)⟩
 case rest=>
  as_aux_lemma=>
   obtain⟨r5,rfl,S,HR⟩:=hcut;clear c0 c1 c2 x1 x2 x3 x4 x5 x6 rE sg rG u_ aqu t8 uL uC uZ zb HI j4 HJ cp;have d0:wc.cell? ⟨r5,0,ab⟩=U (I R aN):=aT _ _ 0 _ _ _ HR.out;have d1:wc.cell? ⟨r5,1,ab⟩=U (I R aP):=aT _ _ 1 _ _ _ HR.out;have HX:=aa (HH.out.au S.out);have J':=aa (bi.bk (g:=g) E y S.out);by_cases h4:aN=4
   .rw[if_pos h4]at m5;have h8:=Bd h4;subst h4;have cp:=HX.out.phase n u;have Cp:=HX.out.b5 (783+n*31);have HS:Hid (DX g P (d.put n {d.T n with phase:=2}) E y (wc.setCell ⟨g,783+n*31,ab⟩ (I R 2))):=aa (HX.out.sk n 2 u);have ps:=aa (J'.out.trans (bi.set (g:=g) E y wc (783+n*31) (I R 2)));obtain⟨kc,kV⟩:=af (bX k);have uA:kc.toList.length=6:=by rw[kV];rfl
    have nv:=HS.out.Oz n u;rw[iK,show i_ {d.T n with phase:=2}=k from HNK.out,<-kV]at nv;have HP:ap ae 79 #[cR k,I R 0] (wc.setCell ⟨g,783+n*31,ab⟩ (I R 2)) fun e w'=>e=aq (I R (ji k.nr 0:Nat))/\aD (wc.setCell ⟨g,783+n*31,ab⟩ (I R 2)).heap.size (wc.setCell ⟨g,783+n*31,ab⟩ (I R 2)) w':=YQ k h8 0 (by omega) _;unfold cR at HP;rw[<-kV]at HP;obtain⟨np,D3⟩:=af (ji k.nr 0);rw[<-D3]at HP m5;clear D3 kV;go_wp2_with(first|(refine wpList_load_mid J 68 (.tmp 48) J g (783+n*31+7) J kc.toList _ nv underlying68 J (by rw[uA];exact Ah) ?_;rw[show kc.toList.toArray=kc from ze]));refine HP.mono ?_;rintro e w2⟨rfl,c_⟩;have gv:=aa (HS.out.au c_);have jL:=aa (ps.out.trans (bi.bk E y c_));have dj:w2.cell? ⟨g,783+n*31+17,ab⟩=U (cO {d.T n with phase:=2} (E n) 17):=by rw[gv.out.th n 17 u (by omega),iK]
    have MY:=gv.out.b5 (783+n*31+17);have dC:=aa (gv.out.EG 17 u (by omega) (I R (np:Nat)) {d.T n with phase:=2,a6:=np} J (fun j=>aal {d.T n with phase:=2} (E n) np j));clear c_;go_wp2;go_ret2;rw[m5.out];exact⟨J,E,y,dC.out,jL.out.trans (bi.set E y _ _ _)⟩
   .rw[if_neg h4]at m5;have ha:=my.resolve_left h4;have HD:=U' n u ⟨aN,aP⟩ ha 5 HX.out cQ im;unfold fe at HD;simp only at HD;have rW:(aN==4)=false:=by simpa using h4
    clear my ha;go_wp2_with fail;refine HD.mono ?_;rintro e w' hG;obtain⟨rfl,q⟩:=kw.nF J'.out hG;clear hG;go_wp2;go_ret2;rw[m5.out];exact⟨J,q⟩
set_option maxHeartbeats 4000000 in set_option maxRecDepth 20000 in theorem ad9{g:Nat}{P:PV}{d:bC}{E:Nat->ag}{y:ag}{W:ac}(n:Nat)(u:n<3)(hp:cM P.p=0)(bh:l3 P.p)(z:hc (d.T n).b')(mN:si (eY (d.T n).aG))(N:(d.T n).phase=3)(h:DX g P d E y W)(cQ:d.aX.length<=1000000)(im:yC (d.T n)):ap ae 46 #[av (U ⟨g,0,ab⟩),I R n] W (VW g P (tE n (ir P.p (d.T n).b' (eY (d.T n).aG)) 4 d) E y W true 0):=by
 have rU:¬(n:Int)<0:=by omega
 have j1:(0:Int)<=n:=by omega
 have j2:¬(2:Int)<n:=by omega
 have n9:(n:Int)<3:=by omega
 have cp:=h.phase n u;rw[N]at cp;obtain⟨k,eQ⟩:=af (d.T n).b';obtain⟨v,eE⟩:=af (eY (d.T n).aG);rw[<-eQ]at z;rw[<-eE]at mN;rw[<-eQ,<-eE];have HJ:=fun X hX=>anh P.p bh P.oa P.cap k z v mN X hX;have my:=KY hp k v;obtain⟨⟨aN,aP⟩,hv⟩:=af (ir P.p k v);rw[<-hv]at HJ my;rw[<-hv];unfold fe ep cR bX qv eU at HJ;simp only at HJ my;have c0:W.cell? ⟨g,0,ab⟩=U (ak P.oa P.p.bw.length P.cap):=h.cell 0 (by omega) (.inl (by omega));have c1:W.cell? ⟨g,1,ab⟩=U (I R P.p.bg.aF):=h.cell 1 (by omega) (.inl (by omega));have c2:W.cell? ⟨g,2,ab⟩=U (I R P.p.bg.aU):=h.cell 2 (by omega) (.inl (by omega));have x1:=h.th n 1 u (by omega);have x2:=h.th n 2 u (by omega);have x3:=h.th n 3 u (by omega);have x4:=h.th n 4 u (by omega);have x5:=h.th n 5 u (by omega);have x6:=h.th n 6 u (by omega);rw[(D0 _ _).1,<-eQ]at x1;rw[(D0 _ _).2.1,<-eQ]at x2;rw[(D0 _ _).2.2.1,<-eQ]at x3;rw[(D0 _ _).2.2.2.1,<-eQ]at x4;rw[(D0 _ _).2.2.2.2.1,<-eQ]at x5;rw[(D0 _ _).2.2.2.2.2,<-eQ]at x6;have v0:W.cell? ⟨g,783+n*31+18,ab⟩=U (ad v.v0.bf):=by rw[h.th n 18 u (by omega),eE];exact congrArg U (mB _ _ 0 (by omega)).1
 have v1:W.cell? ⟨g,783+n*31+19,ab⟩=U (I aj v.v0.ip):=by rw[h.th n 19 u (by omega),eE];exact congrArg U (mB _ _ 0 (by omega)).2.1
 have v2:W.cell? ⟨g,783+n*31+20,ab⟩=U (I R v.v0.aB):=by rw[h.th n 20 u (by omega),eE];exact congrArg U (mB _ _ 0 (by omega)).2.2
 have v3:W.cell? ⟨g,783+n*31+21,ab⟩=U (ad v.v1.bf):=by rw[h.th n 21 u (by omega),eE];exact congrArg U (mB _ _ 1 (by omega)).1
 have v4:W.cell? ⟨g,783+n*31+22,ab⟩=U (I aj v.v1.ip):=by rw[h.th n 22 u (by omega),eE];exact congrArg U (mB _ _ 1 (by omega)).2.1
 have v5:W.cell? ⟨g,783+n*31+23,ab⟩=U (I R v.v1.aB):=by rw[h.th n 23 u (by omega),eE];exact congrArg U (mB _ _ 1 (by omega)).2.2
 have v6:W.cell? ⟨g,783+n*31+24,ab⟩=U (ad v.v2.bf):=by rw[h.th n 24 u (by omega),eE];exact congrArg U (mB _ _ 2 (by omega)).1
 have v7:W.cell? ⟨g,783+n*31+25,ab⟩=U (I aj v.v2.ip):=by rw[h.th n 25 u (by omega),eE];exact congrArg U (mB _ _ 2 (by omega)).2.1
 have v8:W.cell? ⟨g,783+n*31+26,ab⟩=U (I R v.v2.aB):=by rw[h.th n 26 u (by omega),eE];exact congrArg U (mB _ _ 2 (by omega)).2.2
 have v9:W.cell? ⟨g,783+n*31+27,ab⟩=U (ad v.v3.bf):=by rw[h.th n 27 u (by omega),eE];exact congrArg U (mB _ _ 3 (by omega)).1
 have uH:W.cell? ⟨g,783+n*31+28,ab⟩=U (I aj v.v3.ip):=by rw[h.th n 28 u (by omega),eE];exact congrArg U (mB _ _ 3 (by omega)).2.1
 have un:W.cell? ⟨g,783+n*31+29,ab⟩=U (I R v.v3.aB):=by rw[h.th n 29 u (by omega),eE];exact congrArg U (mB _ _ 3 (by omega)).2.2
 have hI:=h.SF;have HI:=aa (hI.au (aS _ W).drew);have HH:=aa (h.au (aS _ W).drew);have Du:=aa (bi.bk (g:=g) E y (aS _ W).drew);obtain⟨pn,ig⟩:=af P.p.bw.length;obtain⟨pk,dm⟩:=af P.p.bg.aF;obtain⟨pe,iF⟩:=af P.p.bg.aU;rw[<-ig]at c0;rw[<-dm]at c1;rw[<-iF]at c2;rw[<-ig,<-dm,<-iF]at HJ;have HD:=fun X(hX:DX g P d E y X)=>U' n u ⟨aN,aP⟩ my 4 hX cQ im;unfold fe at HD;simp only at HD;clear h hI eQ eE hv ig dm iF z mN my im N;replace c0:W.drew.cell? _=_:=c0;replace c1:W.drew.cell? _=_:=c1;replace c2:W.drew.cell? _=_:=c2;replace x1:W.drew.cell? _=_:=x1;replace x2:W.drew.cell? _=_:=x2;replace x3:W.drew.cell? _=_:=x3;replace x4:W.drew.cell? _=_:=x4;replace x5:W.drew.cell? _=_:=x5;replace x6:W.drew.cell? _=_:=x6;replace v0:W.drew.cell? _=_:=v0;replace v1:W.drew.cell? _=_:=v1;replace v2:W.drew.cell? _=_:=v2;replace v3:W.drew.cell? _=_:=v3;replace v4:W.drew.cell? _=_:=v4;replace v5:W.drew.cell? _=_:=v5;replace v6:W.drew.cell? _=_:=v6;replace v7:W.drew.cell? _=_:=v7;replace v8:W.drew.cell? _=_:=v8;replace v9:W.drew.cell? _=_:=v9;replace uH:W.drew.cell? _=_:=uH;replace un:W.drew.cell? _=_:=un;go_enter func46,ntmps46;go_wp2_with fail;refine mj (by kernel_rfl) ?_;change wpAny _ _ _ _ _ _ _ (ll _);refine aW 0 (U 65) (av (U ⟨g,0,ab⟩)) ?_;try simp only[ar,LT]
 refine aW 1 (U 66) (I R n) ?_;try simp only[ar,LT]
 refine aW 2 (U 67) (av (U ⟨g,0,ab⟩)) ?_;try simp only[ar,LT]
 refine aW 3 (U 68) (av (U ⟨g,0,ab⟩)) ?_;try simp only[ar,LT]
 refine aW 4 (U 69) (av (U ⟨g,0,ab⟩)) ?_;try simp only[ar,LT]
 refine aW 6 (U 71) (av (U ⟨g,783+n*31,ab⟩)) ?_;try simp only[ar,LT]
 refine aW 7 (U 72) (av (U ⟨g,783+n*31,ab⟩)) ?_;try simp only[ar,LT]
 refine aW 8 (U 73) (av (U ⟨g,783+n*31+1,ab⟩)) ?_;try simp only[ar,LT]
 refine aW 10 (U 75) (av (U ⟨g,783+n*31,ab⟩)) ?_;try simp only[ar,LT]
 refine aW 11 (U 76) (av (U ⟨g,783+n*31,ab⟩)) ?_;try simp only[ar,LT]
 refine aW 12 (U 77) (av (U ⟨g,783+n*31+18,ab⟩)) ?_;try simp only[ar,LT]
 refine aaJ (i:=5) (j:=9) (k:=13) (by kernel_rfl) J J J J J J (fun K A=>?_) (fun K A=>?_) (fun K A=>?_)
 .go_simp;refine A _ _ ?_;clear A K;try simp only[ar,LT]
  refine iV (i:=9) (j:=13) (by kernel_rfl) J J J J (fun K A=>?_) (fun K A=>?_)
  .go_simp;refine A _ _ ?_;clear A K;try simp only[ar,LT]
   refine aR 13 fun K A=>?_;go_simp;refine A _ _ ?_;clear A K;try simp only[ar,LT]
   refine aR 14 fun K A=>?_;refine Gl.lf 82 #[aw #[ak P.oa pn P.cap,I R pk,I R pe],aw #[I aj k.ej,I aj k.nr,I ah k.a0,I ah k.bR,I ah k.a2,I ah k.a3],aw #[ad v.v0.bf,I aj v.v0.ip,I R v.v0.aB,ad v.v1.bf,I aj v.v1.ip,I R v.v1.aB,ad v.v2.bf,I aj v.v2.ip,I R v.v2.aB,ad v.v3.bf,I aj v.v3.ip,I R v.v3.aB]] (by kernel_rfl) (HJ W.drew HI.out) ?_;rintro e Y⟨rfl,hY⟩;have HY:=aa (HH.out.au hY);have la:=aa (Du.out.trans (bi.bk E y hY));clear hY;refine⟨_,J,A _ _ ?_⟩;clear A K;try simp only[ar,LT]
   refine aR 15 fun K A=>?_;refine Gl.lf 80 #[av (U ⟨g,0,ab⟩),I R n,aw #[I R aN,I R aP],I R 4] (by kernel_rfl) (HD _ HY.out) ?_;rintro e aK⟨rfl,pX,uW,eH,d9⟩;have HZ:=aa (bQ eH (la.out.trans d9));clear eH d9;refine⟨_,J,A _ _ ?_⟩;clear A K;try simp only[ar,LT]
   refine dH (by kernel_rfl) ?_ _;go_wp2;go_ret2;exact⟨J,pX,uW,HZ.out.1,HZ.out.2⟩
  .go_simp;refine A _ _ ?_;clear A K;try simp only[ar,LT]
   refine aR 9 fun K A=>?_;go_simp;refine A _ _ ?_;clear A K;try simp only[ar,LT]
   refine aR 14 fun K A=>?_;refine Gl.lf 82 #[aw #[ak P.oa pn P.cap,I R pk,I R pe],aw #[I aj k.ej,I aj k.nr,I ah k.a0,I ah k.bR,I ah k.a2,I ah k.a3],aw #[ad v.v0.bf,I aj v.v0.ip,I R v.v0.aB,ad v.v1.bf,I aj v.v1.ip,I R v.v1.aB,ad v.v2.bf,I aj v.v2.ip,I R v.v2.aB,ad v.v3.bf,I aj v.v3.ip,I R v.v3.aB]] (by kernel_rfl) (HJ W.drew HI.out) ?_;rintro e Y⟨rfl,hY⟩;have HY:=aa (HH.out.au hY);have la:=aa (Du.out.trans (bi.bk E y hY));clear hY;refine⟨_,J,A _ _ ?_⟩;clear A K;try simp only[ar,LT]
   refine aR 15 fun K A=>?_;refine Gl.lf 80 #[av (U ⟨g,0,ab⟩),I R n,aw #[I R aN,I R aP],I R 4] (by kernel_rfl) (HD _ HY.out) ?_;rintro e aK⟨rfl,pX,uW,eH,d9⟩;have HZ:=aa (bQ eH (la.out.trans d9));clear eH d9;refine⟨_,J,A _ _ ?_⟩;clear A K;try simp only[ar,LT]
   refine dH (by kernel_rfl) ?_ _;go_wp2;go_ret2;exact⟨J,pX,uW,HZ.out.1,HZ.out.2⟩
 .go_simp;refine A _ _ ?_;clear A K;try simp only[ar,LT]
  refine iV (i:=5) (j:=13) (by kernel_rfl) J J J J (fun K A=>?_) (fun K A=>?_)
  .go_simp;refine A _ _ ?_;clear A K;try simp only[ar,LT]
   refine aR 13 fun K A=>?_;go_simp;refine A _ _ ?_;clear A K;try simp only[ar,LT]
   refine aR 14 fun K A=>?_;refine Gl.lf 82 #[aw #[ak P.oa pn P.cap,I R pk,I R pe],aw #[I aj k.ej,I aj k.nr,I ah k.a0,I ah k.bR,I ah k.a2,I ah k.a3],aw #[ad v.v0.bf,I aj v.v0.ip,I R v.v0.aB,ad v.v1.bf,I aj v.v1.ip,I R v.v1.aB,ad v.v2.bf,I aj v.v2.ip,I R v.v2.aB,ad v.v3.bf,I aj v.v3.ip,I R v.v3.aB]] (by kernel_rfl) (HJ W.drew HI.out) ?_;rintro e Y⟨rfl,hY⟩;have HY:=aa (HH.out.au hY);have la:=aa (Du.out.trans (bi.bk E y hY));clear hY;refine⟨_,J,A _ _ ?_⟩;clear A K;try simp only[ar,LT]
   refine aR 15 fun K A=>?_;refine Gl.lf 80 #[av (U ⟨g,0,ab⟩),I R n,aw #[I R aN,I R aP],I R 4] (by kernel_rfl) (HD _ HY.out) ?_;rintro e aK⟨rfl,pX,uW,eH,d9⟩;have HZ:=aa (bQ eH (la.out.trans d9));clear eH d9;refine⟨_,J,A _ _ ?_⟩;clear A K;try simp only[ar,LT]
   refine dH (by kernel_rfl) ?_ _;go_wp2;go_ret2;exact⟨J,pX,uW,HZ.out.1,HZ.out.2⟩
  .go_simp;refine A _ _ ?_;clear A K;try simp only[ar,LT]
   refine aR 5 fun K A=>?_;go_simp;refine A _ _ ?_;clear A K;try simp only[ar,LT]
   refine aR 14 fun K A=>?_;refine Gl.lf 82 #[aw #[ak P.oa pn P.cap,I R pk,I R pe],aw #[I aj k.ej,I aj k.nr,I ah k.a0,I ah k.bR,I ah k.a2,I ah k.a3],aw #[ad v.v0.bf,I aj v.v0.ip,I R v.v0.aB,ad v.v1.bf,I aj v.v1.ip,I R v.v1.aB,ad v.v2.bf,I aj v.v2.ip,I R v.v2.aB,ad v.v3.bf,I aj v.v3.ip,I R v.v3.aB]] (by kernel_rfl) (HJ W.drew HI.out) ?_;rintro e Y⟨rfl,hY⟩;have HY:=aa (HH.out.au hY);have la:=aa (Du.out.trans (bi.bk E y hY));clear hY;refine⟨_,J,A _ _ ?_⟩;clear A K;try simp only[ar,LT]
   refine aR 15 fun K A=>?_;refine Gl.lf 80 #[av (U ⟨g,0,ab⟩),I R n,aw #[I R aN,I R aP],I R 4] (by kernel_rfl) (HD _ HY.out) ?_;rintro e aK⟨rfl,pX,uW,eH,d9⟩;have HZ:=aa (bQ eH (la.out.trans d9));clear eH d9;refine⟨_,J,A _ _ ?_⟩;clear A K;try simp only[ar,LT]
   refine dH (by kernel_rfl) ?_ _;go_wp2;go_ret2;exact⟨J,pX,uW,HZ.out.1,HZ.out.2⟩
 .go_simp;refine A _ _ ?_;clear A K;try simp only[ar,LT]
  refine iV (i:=5) (j:=9) (by kernel_rfl) J J J J (fun K A=>?_) (fun K A=>?_)
  .go_simp;refine A _ _ ?_;clear A K;try simp only[ar,LT]
   refine aR 9 fun K A=>?_;go_simp;refine A _ _ ?_;clear A K;try simp only[ar,LT]
   refine aR 14 fun K A=>?_;refine Gl.lf 82 #[aw #[ak P.oa pn P.cap,I R pk,I R pe],aw #[I aj k.ej,I aj k.nr,I ah k.a0,I ah k.bR,I ah k.a2,I ah k.a3],aw #[ad v.v0.bf,I aj v.v0.ip,I R v.v0.aB,ad v.v1.bf,I aj v.v1.ip,I R v.v1.aB,ad v.v2.bf,I aj v.v2.ip,I R v.v2.aB,ad v.v3.bf,I aj v.v3.ip,I R v.v3.aB]] (by kernel_rfl) (HJ W.drew HI.out) ?_;rintro e Y⟨rfl,hY⟩;have HY:=aa (HH.out.au hY);have la:=aa (Du.out.trans (bi.bk E y hY));clear hY;refine⟨_,J,A _ _ ?_⟩;clear A K;try simp only[ar,LT]
   refine aR 15 fun K A=>?_;refine Gl.lf 80 #[av (U ⟨g,0,ab⟩),I R n,aw #[I R aN,I R aP],I R 4] (by kernel_rfl) (HD _ HY.out) ?_;rintro e aK⟨rfl,pX,uW,eH,d9⟩;have HZ:=aa (bQ eH (la.out.trans d9));clear eH d9;refine⟨_,J,A _ _ ?_⟩;clear A K;try simp only[ar,LT]
   refine dH (by kernel_rfl) ?_ _;go_wp2;go_ret2;exact⟨J,pX,uW,HZ.out.1,HZ.out.2⟩
  .go_simp;refine A _ _ ?_;clear A K;try simp only[ar,LT]
   refine aR 5 fun K A=>?_;go_simp;refine A _ _ ?_;clear A K;try simp only[ar,LT]
   refine aR 14 fun K A=>?_;refine Gl.lf 82 #[aw #[ak P.oa pn P.cap,I R pk,I R pe],aw #[I aj k.ej,I aj k.nr,I ah k.a0,I ah k.bR,I ah k.a2,I ah k.a3],aw #[ad v.v0.bf,I aj v.v0.ip,I R v.v0.aB,ad v.v1.bf,I aj v.v1.ip,I R v.v1.aB,ad v.v2.bf,I aj v.v2.ip,I R v.v2.aB,ad v.v3.bf,I aj v.v3.ip,I R v.v3.aB]] (by kernel_rfl) (HJ W.drew HI.out) ?_;rintro e Y⟨rfl,hY⟩;have HY:=aa (HH.out.au hY);have la:=aa (Du.out.trans (bi.bk E y hY));clear hY;refine⟨_,J,A _ _ ?_⟩;clear A K;try simp only[ar,LT]
   refine aR 15 fun K A=>?_;refine Gl.lf 80 #[av (U ⟨g,0,ab⟩),I R n,aw #[I R aN,I R aP],I R 4] (by kernel_rfl) (HD _ HY.out) ?_;rintro e aK⟨rfl,pX,uW,eH,d9⟩;have HZ:=aa (bQ eH (la.out.trans d9));clear eH d9;refine⟨_,J,A _ _ ?_⟩;clear A K;try simp only[ar,LT]
   refine dH (by kernel_rfl) ?_ _;go_wp2;go_ret2;exact⟨J,pX,uW,HZ.out.1,HZ.out.2⟩
def lL(nr i:Nat):List Nat:=(tX 4).filter fun j=>decide (i<=j)&&decide (2<=a1 nr j)
theorem aa2{nr j:Nat}(hj:j<4)(z:2<=a1 nr j):lL nr j=j::lL nr (j+1):=by have r4:tX 4=[0,1,2,3]:=J;rcases show j=0\/j=1\/j=2\/j=3 by omega with rfl|rfl|rfl|rfl<;>simp[lL,r4,T5,z]
theorem aaG{nr j:Nat}(hj:j<4)(z:¬2<=a1 nr j):lL nr j=lL nr (j+1):=by have r4:tX 4=[0,1,2,3]:=J;rcases show j=0\/j=1\/j=2\/j=3 by omega with rfl|rfl|rfl|rfl<;>simp[lL,r4,T5,z]
theorem Uu(nr:Nat):lL nr 4=[]:=rfl
theorem U0{nr:Nat}(h:nr<=8):lL nr 0=bx nr:=by unfold lL bx;rw[if_pos h];simp
def ky(m:MS)(nr:Nat)(dI:Nat->Nat):List Nat->(Nat->VL)->VS×Nat|[],v=>(eY v,0)|i::r,v=>match jU m (a1 nr i) (dI i)with| .inl x=>ky m nr dI r (aO v i x)| .inr e=>(cb,e)
def Eg:Option (List Nat)->VL⊕Nat|ab=> .inr 14|U l=>match gS ⟨(e5 l).toArray⟩with|U x=> .inl ⟨fH,x.1,x.2⟩|ab=> .inr 22
theorem Zj{m:MS}{k a:Nat}(z:k≠2):jU m k a=Eg (h1 m a 16):=by
 unfold jU Eg;rw[if_neg z];cases h1 m a 16 with
  |none=>rfl
  |some l=>simp only;cases gS ⟨(e5 l).toArray⟩<;>rfl
theorem vh:(ae.info? 73).map (·.size)=U 12:=by kernel_rfl
theorem Ep(v:VS):(eU v).all (·.oneCell')=true:=by simp[eU,Value.oneCell']
theorem IL{fn:Func}{p ay:Tmp}(h:fn.results=#[.cell p 73, .tmp ay])(tmps:Array ag)(w:ac)(g:Nat)(cs:Array ag)(v:ag)(F:cs.size=12)(hp:tmps.getD p undef=av (U ⟨g,0,ab⟩))(hv:tmps.getD ay undef=v)(hg:w.heap[g]?=U (.cells cs 73 (0,0))):(results fn tmps).run ae w= .ok (az #[aw cs,v]) w:=by rw[results_cell_tmp h,hp,hv];have hl:=run_loadVar_row (P:=ae) w g 73 73 cs (0,0) _ hg underlying73 J (by rw[F];exact vh);simp[asAddr,hl]
structure LX(W:ac)(k:KL)(c:Array ag)(X:ac):Prop where
 below:aD W.heap.size W X
 call:X.heap[W.heap.size]?=U (.cells (bX k) 68 (0,0))
 ci:X.heap[W.heap.size+1]?=U (.cells (eU cb) 73 (0,0))
 val:X.heap[W.heap.size+2]?=U (.cells c 73 (0,0))
theorem LX.au{W:ac}{k:KL}{c:Array ag}{X Y:ac}(h:LX W k c X)(hb:aD X.heap.size X Y):LX W k c Y:=⟨ax h.below hb,(hb.block _ (bM.1 h.call).1).trans h.call,(hb.block _ (bM.1 h.ci).1).trans h.ci,(hb.block _ (bM.1 h.val).1).trans h.val⟩
theorem LX.start(W:ac)(k:KL):LX W k (eU (eY fun _=>dE)) (((W.alloc (.cells (bX k) 68)).alloc (.cells (eU cb) 73)).alloc (.cells (eU cb) 73)):=by
 have b1:=ai W (.cells (bX k) 68);have b2:=ai (W.alloc (.cells (bX k) 68)) (.cells (eU cb) 73);have b3:=ai ((W.alloc (.cells (bX k) 68)).alloc (.cells (eU cb) 73)) (.cells (eU cb) 73);have s1:(W.alloc (.cells (bX k) 68)).heap.size=W.heap.size+1:=bA _ _;have s2:((W.alloc (.cells (bX k) 68)).alloc (.cells (eU cb) 73)).heap.size=W.heap.size+2:=by rw[bA,s1]
 refine⟨ax (ax b1 b2) b3,?_,?_,?_⟩;.rw[b3.block _ (by omega),b2.block _ (by omega)];exact a7 W _
 .rw[b3.block _ (by omega),<-s1];exact a7 _ _
 .rw[<-s2];exact a7 _ _
theorem LX.set{W:ac}{k:KL}{c:Array ag}{X:ac}(h:LX W k c X)(j:Nat)(v:ag):LX W k (c.setIfInBounds j v) (X.setCell ⟨W.heap.size+2,j,ab⟩ v):=by rw[setCell_eq_setRow _ _ _ _ _ _ _ h.val];exact⟨below_setRow h.below (by omega) _,(ij X _ _ _ (by omega)).trans h.call,(ij X _ _ _ (by omega)).trans h.ci,aV _ _ _ _ _ _ h.val⟩
theorem amW(v:Nat->VL)(i:Nat)(hi:i<4)(s:ByteArray):(eU (eY v)).setIfInBounds (i*3) (ad s)=eU (eY (aO v i ⟨s,(v i).ip,(v i).aB⟩)):=by rcases show i=0\/i=1\/i=2\/i=3 by omega with rfl|rfl|rfl|rfl<;>rfl
theorem aaY(v:Nat->VL)(i:Nat)(hi:i<4)(x:Nat):(eU (eY v)).setIfInBounds (i*3+1) (I aj x)=eU (eY (aO v i ⟨(v i).bf,x,(v i).aB⟩)):=by rcases show i=0\/i=1\/i=2\/i=3 by omega with rfl|rfl|rfl|rfl<;>rfl
theorem aba(v:Nat->VL)(i:Nat)(hi:i<4)(x:Int):(eU (eY v)).setIfInBounds (i*3+2) (I R x)=eU (eY (aO v i ⟨(v i).bf,(v i).ip,x⟩)):=by rcases show i=0\/i=1\/i=2\/i=3 by omega with rfl|rfl|rfl|rfl<;>rfl
theorem IR(v:Nat->VL)(i:Nat)(hi:i<4):(eU (eY v))[i*3]?=U (ad (v i).bf)/\(eU (eY v))[i*3+1]?=U (I aj (v i).ip)/\(eU (eY v))[i*3+2]?=U (I R (v i).aB):=by rcases show i=0\/i=1\/i=2\/i=3 by omega with rfl|rfl|rfl|rfl<;>exact⟨J,J,J⟩
theorem alh(k:KL)(i:Nat)(hi:i<4):(bX k)[2+i]?=U (I ah (fk k i)):=by rcases show i=0\/i=1\/i=2\/i=3 by omega with rfl|rfl|rfl|rfl<;>rfl
theorem an0{k:KL}(z:hc k)(i:Nat)(hi:i<4):fk k i<18446744073709551616:=by
 obtain⟨_,_,h2,h3,h4,h5⟩:=z;rcases show i=0\/i=1\/i=2\/i=3 by omega with rfl|rfl|rfl|rfl;.exact h2
 .exact h3
 .exact h4
 .exact h5
set_option maxHeartbeats 8000000 in set_option maxRecDepth 20000 in theorem ajU{aC:Vr.LY}{m:MS}{W:ac}(h:Vr.fD aC m W)(k:KL)(z:hc k)(h8:k.nr<=8):ap ae 120 #[av (U ⟨aC.g,aC.o,ab⟩),cR k] W fun e w'=>e=aq (az #[qv (ky m k.nr (fk k) (bx k.nr) fun _=>dE).1,I R ((ky m k.nr (fk k) (bx k.nr) fun _=>dE).2:Nat)])/\aD W.heap.size W w':=by
 obtain⟨bd,hR⟩:=af (ky m k.nr (fk k) (bx k.nr) fun _=>dE);obtain⟨kc,kV⟩:=af (bX k);obtain⟨X0,ya⟩:=af (((W.alloc (.cells kc 68)).alloc (.cells #[ad ⟨#[]⟩,I aj 0,I R 0,ad ⟨#[]⟩,I aj 0,I R 0,ad ⟨#[]⟩,I aj 0,I R 0,ad ⟨#[]⟩,I aj 0,I R 0] 73)).alloc (.cells #[ad ⟨#[]⟩,I aj 0,I R 0,ad ⟨#[]⟩,I aj 0,I R 0,ad ⟨#[]⟩,I aj 0,I R 0,ad ⟨#[]⟩,I aj 0,I R 0] 73));have HSt:=aa (show LX W k (eU (eY fun _=>dE)) X0 by rw[ya,kV];exact LX.start W k);have o5:=aa (show ky m k.nr (fk k) (lL k.nr 0) (fun _=>dE)=bd by rw[U0 h8,hR]);rw[<-hR];obtain⟨nr,b0⟩:=af k.nr;have m8:=aa b0;rw[<-b0]at o5 h8;have HM:=aa h;have Hg:=aa z;have n1:(nr:Int)<100:=by omega
 have n2:¬(100:Int)<nr:=by omega
 have vM:AX R (nr:Int)=nr:=by rw[jP]<;>omega
 have om:min (nr:Int) 100=nr:=by omega
 have HK:=fun j hj w=>wC nr j (by omega) hj w;unfold cR;rw[<-kV];have Gu:=aa ya;obtain⟨g,hg⟩:=af aC.g;obtain⟨o,ho⟩:=af aC.o;have NR:=aa (bQ hg ho);rw[<-hg,<-ho];clear hR h z b0 ya kV hg ho;go_enter func120,ntmps120;go_wp2_with fail;rw[<-Gu.out];clear Gu;obtain⟨r,L⟩:=af W.heap.size;rw[<-L];have bc:=aa L;clear L;go_loopw[7](fun aL w'=>∃(i:Nat)(v:Nat->VL),i<=4/\aL=I R i/\Hid (LX W k (eU (eY v)) w')/\Hid (ky m nr (fk k) (lL nr i) v=bd/\∀j,i<=j->v j=dE))(fun aL _=>4-(intOf aL).toNat);case atStart=>exact⟨0,_,by omega,J,HSt,aa ⟨o5.out,fun _ _=>J⟩⟩
 case round=>
  obtain⟨i,v,hi,rfl,G,HG⟩:=hrel;clear HSt o5;have c1:wr.cell? ⟨r,1,ab⟩=U (I aj (nr:Nat)):=by rw[bc.out,aT _ _ 1 _ _ _ G.out.call,m8.out];rfl
  by_cases am:i<4
  .have hl:(i:Int)<4:=by omega
   have k1:(0:Int)<=i:=by omega
   have qr:=fun w=>HK i am w;obtain⟨kd,fg⟩:=af (a1 nr i);simp only[<-fg]at qr;have iw:kd<=3:=by rw[fg];exact Qa _ _
   obtain⟨j8,wn⟩:=af (fk k i);have Oi:j8<18446744073709551616:=by rw[wn];exact an0 Hg.out i am
   have c2:wr.cell? ⟨r,2+i,ab⟩=U (I ah (j8:Nat)):=by rw[bc.out,aT _ _ (2+i) _ _ _ G.out.call,wn];exact alh _ _ am
   by_cases gG:2<=kd
   .have EU:=aa2 am (by rw[<-fg];exact gG);have fd:=aa (show ky m nr (fk k) (lL nr i) v=match jU m kd j8 with| .inl x=>ky m nr (fk k) (lL nr (i+1)) (aO v i x)| .inr e=>(cb,e)by rw[EU,fg,wn];rfl);have Q':=HG.out.2 i (aA _);have n4:=G.out;rcases show kd=2\/kd=3 by omega with GS|Nj
    .as_aux_lemma=>
      have b2:((kd:Int)==2)=true:=by simpa using(show(kd:Int)=2 by omega)
      have nO:Hid (ap ae 156 #[av (U ⟨g,o,ab⟩),I ah j8] wr fun e w'=>e=aq (Lh (Mm.aqq (ey m) j8 41 0 []))/\aD wr.heap.size wr w'):=aa (by rw[NR.out.1,NR.out.2];exact Vr.agT (HM.out.au G.out.below) j8 Oi);obtain⟨⟨f,l⟩,L⟩:=af (Mm.aqq (ey m) j8 41 0 []);have K4:=Rl (ey m) j8 41 0 [];rw[<-L]at nO K4;obtain⟨B,N⟩:∃B:ByteArray,B=⟨(e5 l).toArray⟩:=⟨_,J⟩;have je:=aa (show jU m kd j8=if f=0 then .inl ⟨B,0,0⟩else .inr (if f=5 then 14 else 36)by unfold jU;rw[if_pos GS,<-L,N];rcases K4 with h0|h0|h0<;>(have KM:f=_:=h0;subst KM;rfl));unfold Lh at nO;simp only at nO K4;rw[<-N]at nO;clear L N fg wn gG GS iw EU;go_wp2_with(first|(go_at_call 47;refine(qr _).mono ?_;rintro e w'⟨rfl,hw⟩;rw[hw];clear hw w'));refine nO.out.mono ?_;rintro e X⟨rfl,hX⟩;have qp:=G.out.au hX;have s0:X.cell? ⟨r+2,i*3,ab⟩=U (ad (v i).bf):=by rw[bc.out,aT _ _ _ _ _ _ qp.val];exact(IR v i am).1
      have f0:X.frozen? ⟨r+2,i*3,ab⟩=false:=by rw[bc.out];exact cy _ _ _ _ _ qp.val
      have HD:Hid (LX W k (eU (eY (aO v i ⟨B,0,0⟩))) (X.setCell ⟨r+2,i*3,ab⟩ (ad B))):=aa (by have:=qp.set (i*3) (ad B);rw[amW v i am,Q',<-bc.out]at this;exact this);clear qp hX nO G Q' n4;rcases K4 with rfl|rfl|rfl
      .rw[if_pos J]at je;have HV:=aa (show ky m nr (fk k) (lL nr (i+1)) (aO v i ⟨B,0,0⟩)=bd/\∀j,i+1<=j->aO v i ⟨B,0,0⟩ j=dE from⟨by rw[<-HG.out.1,fd.out,je.out],fun j hj=>by rw[ed _ _ (by omega)];exact HG.out.2 j (by omega)⟩);go_wp2;go_round;case rel=>exact⟨i+1,_,by omega,by go_num,HD,HV⟩
       case measure=>simp[intOf];omega
      .have HV:=aa (show bd=(cb,14)by rw[<-HG.out.1,fd.out,je.out];rfl);have aZ:=HD.out.ci;rw[<-bc.out]at aZ;have yn:=aa (below_setRow (g:=r+1) HD.out.below (by rw[bc.out];omega) #[ad ⟨#[]⟩,I aj 0,I R 0,ad ⟨#[]⟩,I aj 0,I R 0,ad ⟨#[]⟩,I aj 0,I R 0,ad ⟨#[]⟩,I aj 0,I R 0]);clear HD;go_wp2_with(first|(refine bK J 73 _ _ J (r+1) #[ad ⟨#[]⟩,I aj 0,I R 0,ad ⟨#[]⟩,I aj 0,I R 0,ad ⟨#[]⟩,I aj 0,I R 0,ad ⟨#[]⟩,I aj 0,I R 0] J J 73 _ aZ vh J (Ep cb) ?_));refine ba (v:=az #[aw #[ad ⟨#[]⟩,I aj 0,I R 0,ad ⟨#[]⟩,I aj 0,I R 0,ad ⟨#[]⟩,I aj 0,I R 0,ad ⟨#[]⟩,I aj 0,I R 0],I R 14]) (IL J _ _ (r+1) #[ad ⟨#[]⟩,I aj 0,I R 0,ad ⟨#[]⟩,I aj 0,I R 0,ad ⟨#[]⟩,I aj 0,I R 0,ad ⟨#[]⟩,I aj 0,I R 0] _ J J J (aV _ _ _ _ _ _ aZ)) J ⟨?_,yn.out⟩;rw[HV.out];rfl
      .have HV:=aa (show bd=(cb,36)by rw[<-HG.out.1,fd.out,je.out];rfl);have aZ:=HD.out.ci;rw[<-bc.out]at aZ;have yn:=aa (below_setRow (g:=r+1) HD.out.below (by rw[bc.out];omega) #[ad ⟨#[]⟩,I aj 0,I R 0,ad ⟨#[]⟩,I aj 0,I R 0,ad ⟨#[]⟩,I aj 0,I R 0,ad ⟨#[]⟩,I aj 0,I R 0]);clear HD;go_wp2_with(first|(refine bK J 73 _ _ J (r+1) #[ad ⟨#[]⟩,I aj 0,I R 0,ad ⟨#[]⟩,I aj 0,I R 0,ad ⟨#[]⟩,I aj 0,I R 0,ad ⟨#[]⟩,I aj 0,I R 0] J J 73 _ aZ vh J (Ep cb) ?_));refine ba (v:=az #[aw #[ad ⟨#[]⟩,I aj 0,I R 0,ad ⟨#[]⟩,I aj 0,I R 0,ad ⟨#[]⟩,I aj 0,I R 0,ad ⟨#[]⟩,I aj 0,I R 0],I R 36]) (IL J _ _ (r+1) #[ad ⟨#[]⟩,I aj 0,I R 0,ad ⟨#[]⟩,I aj 0,I R 0,ad ⟨#[]⟩,I aj 0,I R 0,ad ⟨#[]⟩,I aj 0,I R 0] _ J J J (aV _ _ _ _ _ _ aZ)) J ⟨?_,yn.out⟩;rw[HV.out];rfl
    .as_aux_lemma=>
      have b2:((kd:Int)==2)=false:=by simpa using(show¬(kd:Int)=2 by omega)
      have b3:((kd:Int)==3)=true:=by simpa using(show(kd:Int)=3 by omega)
      have nO:Hid (ap ae 157 #[av (U ⟨g,o,ab⟩),I ah j8,I R 16] wr fun e w'=>e=aq (F9 (h1 m j8 16))/\aD wr.heap.size wr w'):=aa (by rw[NR.out.1,NR.out.2];exact Vr.aiR (HM.out.au G.out.below) j8 16 Oi (by omega));obtain⟨C9,hG⟩:=af (h1 m j8 16);rw[<-hG]at nO;have je:=aa (show jU m kd j8=Eg C9 by rw[hG];exact Zj (by omega));clear hG fg wn gG Nj iw EU;cases C9 with
       |none=>
        as_aux_lemma=>
         unfold Eg at je;simp only at je;unfold F9 at nO;simp only at nO;have iU:=fun w=>Qt ⟨#[]⟩ w;rw[show gS ⟨#[]⟩=ab from by rfl]at iU;unfold yE at iU;simp only at iU;go_wp2_with(first|(go_at_call 47;refine(qr _).mono ?_;rintro e w'⟨rfl,hw⟩;rw[hw];clear hw w'));refine nO.out.mono ?_;rintro e X0⟨rfl,ya⟩;have Be:=G.out.au ya;clear ya nO G;go_wp2_with fail;refine(iU X0).mono ?_;rintro e X⟨rfl,hX⟩;have qp:=Be.au hX;have s1:X.cell? ⟨r+2,i*3+1,ab⟩=U (I aj ((v i).ip:Nat)):=by rw[bc.out,aT _ _ _ _ _ _ qp.val];exact(IR v i am).2.1
         have f1:X.frozen? ⟨r+2,i*3+1,ab⟩=false:=by rw[bc.out];exact cy _ _ _ _ _ qp.val
         have pU:=qp.set (i*3+1) (I aj (0:Nat));rw[aaY v i am,<-bc.out]at pU;have s2:(X.setCell ⟨r+2,i*3+1,ab⟩ (I aj 0)).cell? ⟨r+2,i*3+2,ab⟩=U (I R (v i).aB):=by have q:(X.setCell ⟨r+2,i*3+1,ab⟩ (I aj 0)).cell? ⟨r+2,i*3+2,ab⟩=_:=aT _ _ _ _ _ _ (by rw[bc.out]at pU⊢;exact pU.val);rw[q,(IR _ i am).2.2,dN]
         have f2:(X.setCell ⟨r+2,i*3+1,ab⟩ (I aj 0)).frozen? ⟨r+2,i*3+2,ab⟩=false:=cy _ _ _ _ _ (by rw[bc.out]at pU⊢;exact pU.val);have Bh:=pU;rw[bc.out]at Bh;have hD:=Bh.set (i*3+2) (I R ((0:Nat):Int));rw[aba _ i am,<-bc.out]at hD;have HD:=aa hD;clear Bh hD;replace HD:Hid (LX W k _ ((X.setCell ⟨r+2,i*3+1,ab⟩ (I aj 0)).setCell ⟨r+2,i*3+2,ab⟩ (I R 0))):=HD;clear Be qp pU hX iU;have HV:=aa (show bd=(cb,14)by rw[<-HG.out.1,fd.out,je.out]);have aZ:=HD.out.ci;rw[<-bc.out]at aZ;have yn:=aa (below_setRow (g:=r+1) HD.out.below (by rw[bc.out];omega) #[ad ⟨#[]⟩,I aj 0,I R 0,ad ⟨#[]⟩,I aj 0,I R 0,ad ⟨#[]⟩,I aj 0,I R 0,ad ⟨#[]⟩,I aj 0,I R 0]);clear HD;go_wp2_with(first|(refine bK J 73 _ _ J (r+1) #[ad ⟨#[]⟩,I aj 0,I R 0,ad ⟨#[]⟩,I aj 0,I R 0,ad ⟨#[]⟩,I aj 0,I R 0,ad ⟨#[]⟩,I aj 0,I R 0] J J 73 _ aZ vh J (Ep cb) ?_));refine ba (v:=az #[aw #[ad ⟨#[]⟩,I aj 0,I R 0,ad ⟨#[]⟩,I aj 0,I R 0,ad ⟨#[]⟩,I aj 0,I R 0,ad ⟨#[]⟩,I aj 0,I R 0],I R 14]) (IL J _ _ (r+1) #[ad ⟨#[]⟩,I aj 0,I R 0,ad ⟨#[]⟩,I aj 0,I R 0,ad ⟨#[]⟩,I aj 0,I R 0,ad ⟨#[]⟩,I aj 0,I R 0] _ J J J (aV _ _ _ _ _ _ aZ)) J ⟨?_,yn.out⟩;rw[HV.out];rfl
       |some l=>
        as_aux_lemma=>
         unfold Eg at je;simp only at je;unfold F9 at nO;simp only at nO;obtain⟨B,N⟩:∃B:ByteArray,B=⟨(e5 l).toArray⟩:=⟨_,J⟩;rw[<-N]at nO je;have iU:=fun w=>Qt B w;obtain⟨rr,jO⟩:=af (gS B);rw[<-jO]at iU je;clear N jO;go_wp2_with(first|(go_at_call 47;refine(qr _).mono ?_;rintro e w'⟨rfl,hw⟩;rw[hw];clear hw w'));refine nO.out.mono ?_;rintro e X0⟨rfl,ya⟩;have Be:=G.out.au ya;clear ya nO G n4;go_wp2_with fail;cases rr with
          |none=>as_aux_lemma=>unfold yE at iU;simp only at iU je;refine(iU X0).mono ?_;rintro e X⟨rfl,hX⟩;have HD:=aa (Be.au hX);clear Be hX iU;have HV:=aa (show bd=(cb,22)by rw[<-HG.out.1,fd.out,je.out]);have aZ:=HD.out.ci;rw[<-bc.out]at aZ;have yn:=aa (below_setRow (g:=r+1) HD.out.below (by rw[bc.out];omega) #[ad ⟨#[]⟩,I aj 0,I R 0,ad ⟨#[]⟩,I aj 0,I R 0,ad ⟨#[]⟩,I aj 0,I R 0,ad ⟨#[]⟩,I aj 0,I R 0]);clear HD;go_wp2_with(first|(refine bK J 73 _ _ J (r+1) #[ad ⟨#[]⟩,I aj 0,I R 0,ad ⟨#[]⟩,I aj 0,I R 0,ad ⟨#[]⟩,I aj 0,I R 0,ad ⟨#[]⟩,I aj 0,I R 0] J J 73 _ aZ vh J (Ep cb) ?_));refine ba (v:=az #[aw #[ad ⟨#[]⟩,I aj 0,I R 0,ad ⟨#[]⟩,I aj 0,I R 0,ad ⟨#[]⟩,I aj 0,I R 0,ad ⟨#[]⟩,I aj 0,I R 0],I R 22]) (IL J _ _ (r+1) #[ad ⟨#[]⟩,I aj 0,I R 0,ad ⟨#[]⟩,I aj 0,I R 0,ad ⟨#[]⟩,I aj 0,I R 0,ad ⟨#[]⟩,I aj 0,I R 0] _ J J J (aV _ _ _ _ _ _ aZ)) J ⟨?_,yn.out⟩;rw[HV.out];rfl
          |some St=>
           as_aux_lemma=>
            obtain⟨ip,aB⟩:=St;unfold yE at iU;simp only at iU je;refine(iU X0).mono ?_;rintro e X⟨rfl,hX⟩;have qp:=Be.au hX;have s1:X.cell? ⟨r+2,i*3+1,ab⟩=U (I aj ((v i).ip:Nat)):=by rw[bc.out,aT _ _ _ _ _ _ qp.val];exact(IR v i am).2.1
            have f1:X.frozen? ⟨r+2,i*3+1,ab⟩=false:=by rw[bc.out];exact cy _ _ _ _ _ qp.val
            have pU:=qp.set (i*3+1) (I aj (ip:Nat));rw[aaY v i am,<-bc.out]at pU;have s2:(X.setCell ⟨r+2,i*3+1,ab⟩ (I aj (ip:Nat))).cell? ⟨r+2,i*3+2,ab⟩=U (I R (v i).aB):=by have q:(X.setCell ⟨r+2,i*3+1,ab⟩ (I aj (ip:Nat))).cell? ⟨r+2,i*3+2,ab⟩=_:=aT _ _ _ _ _ _ (by rw[bc.out]at pU⊢;exact pU.val);rw[q,(IR _ i am).2.2,dN]
            have f2:(X.setCell ⟨r+2,i*3+1,ab⟩ (I aj (ip:Nat))).frozen? ⟨r+2,i*3+2,ab⟩=false:=cy _ _ _ _ _ (by rw[bc.out]at pU⊢;exact pU.val);have Bh:=pU;rw[bc.out]at Bh;have hD:=Bh.set (i*3+2) (I R ((aB:Nat):Int));rw[aba _ i am,dN,BI,Q',<-bc.out]at hD;have HD:=aa hD;clear Be qp pU Bh hD hX iU;have HV:=aa (show ky m nr (fk k) (lL nr (i+1)) (aO v i ⟨fH,ip,aB⟩)=bd/\∀j,i+1<=j->aO v i ⟨fH,ip,aB⟩ j=dE from⟨by rw[<-HG.out.1,fd.out,je.out],fun j hj=>by rw[ed _ _ (by omega)];exact HG.out.2 j (by omega)⟩);go_wp2;go_round;case rel=>exact⟨i+1,_,by omega,by go_num,HD,HV⟩
            case measure=>simp[intOf];omega
   .have dY:¬2<=kd:=gG;as_aux_lemma=>
     have b2:((kd:Int)==2)=false:=by simpa using(show¬(kd:Int)=2 by omega)
     have b3:((kd:Int)==3)=false:=by simpa using(show¬(kd:Int)=3 by omega)
     have HV:=aa (show ky m nr (fk k) (lL nr (i+1)) v=bd/\∀j,i+1<=j->v j=dE from⟨by rw[<-aaG am (by rw[<-fg];exact dY)];exact HG.out.1,fun j hj=>HG.out.2 j (by omega)⟩);clear fg wn gG dY Oi c2 HG;go_wp2_with(go_at_call 47;refine(qr _).mono ?_;rintro e w'⟨rfl,hw⟩;rw[hw];clear hw w');go_round;case rel=>exact⟨i+1,v,by omega,by go_num,G,HV⟩
     case measure=>simp[intOf];omega
  .as_aux_lemma=>
    have hl:¬(i:Int)<4:=by omega
    have h4:i=4:=by omega
    have HV:=aa (show bd=(eY v,0)by rw[<-HG.out.1,h4,Uu];rfl);have aZ:=G.out.ci;have yG:=G.out.val;rw[<-bc.out]at aZ yG;obtain⟨vc,ja⟩:=af (eU (eY v));have j9:vc.size=12:=by rw[ja];rfl
    have oD:vc.all (·.oneCell')=true:=by rw[ja];exact Ep _
    have IA:=aa ja;rw[<-ja]at yG;have yn:=aa (below_setRow (g:=r+1) G.out.below (by rw[bc.out];omega) vc);clear h4 am G HG ja;go_wp2_with(first|(refine vC J 73 (.tmp 6) J (r+2) J 73 vc (0,0) _ yG underlying73 J (by rw[j9];exact vh) ?_)|(refine bK J 73 _ _ J (r+1) vc J J 73 _ aZ (by rw[j9];exact vh) (by rw[j9];rfl) oD ?_));refine ba (v:=az #[aw vc,I R 0]) (IL J _ _ (r+1) vc _ j9 J J (aV _ _ _ _ _ _ aZ)) J ⟨?_,yn.out⟩;rw[HV.out,IA.out];rfl
theorem akA{m:MS}{k a e:Nat}(h:jU m k a= .inr e):1<=e:=by
 by_cases z:k=2
 .unfold jU at h;rw[if_pos z]at h;split at h;.cases h
  .cases h;split<;>omega
 .rw[Zj z]at h;unfold Eg at h;split at h;.cases h;omega
  .split at h;.cases h
   .cases h;omega
theorem WA(n:Nat)(d:bC):∀(r:List Nat)(v:Nat->VL),Bj n d r v=if(ky d.mem (d.T n).b'.nr (d.T n).dI r v).2=0 then gf n 1 0 (ky d.mem (d.T n).b'.nr (d.T n).dI r v).1 d else gf n 2 ((ky d.mem (d.T n).b'.nr (d.T n).dI r v).2:Nat) cb d
 |[],v=>by unfold Bj ky;rw[if_pos J]
 |i::r,v=>by
  unfold Bj ky;cases M:jU d.mem (a1 (d.T n).b'.nr i) ((d.T n).dI i)with
   |inl x=>exact WA n d r (aO v i x)
   |inr e=>have:=akA M;show gf n 2 _ cb d=if e=0 then _ else gf n 2 (e:Nat) cb d;rw[if_neg (by omega)]
theorem aaF{m:MS}{nr:Nat}{f h:Nat->Nat}:∀(r:List Nat)(v:Nat->VL),(∀i∈r,f i=h i)->ky m nr f r v=ky m nr h r v
 |[],v,_=>J
 |i::r,v,he=>by
  unfold ky;rw[he i (by simp)];cases jU m (a1 nr i) (h i)with
   |inl x=>exact aaF r _ fun j hj=>he j (by simp[hj])
   |inr e=>rfl
theorem aiL(t:DT)(i:Nat)(hi:i<4):fk (i_ t) i=t.dI i:=by rcases show i=0\/i=1\/i=2\/i=3 by omega with rfl|rfl|rfl|rfl<;>rfl
set_option maxHeartbeats 2000000 in set_option maxRecDepth 20000 in theorem akh{g:Nat}{P:PV}{d:bC}{E:Nat->ag}{y:ag}{W:ac}(n:Nat)(u:n<3)(z:hc (i_ (d.T n)))(h:DX g P d E y W)(cQ:d.aX.length<=1000000)(im:yC (d.T n)):ap ae 84 #[av (U ⟨g,0,ab⟩),I R n] W (kw g P (xE n d) E y W):=by
 have rU:¬(n:Int)<0:=by omega
 have j1:(0:Int)<=n:=by omega
 have j2:¬(2:Int)<n:=by omega
 have n9:(n:Int)<3:=by omega
 obtain⟨nr,b0⟩:=af (d.T n).b'.nr;have y4:W.cell? ⟨g,783+n*31+8,ab⟩=U (I aj (nr:Nat)):=by rw[h.th n 8 u (by omega),b0];rfl
 have HH:=aa h;by_cases h8:8<nr
 .have BF:(8:Int)<nr:=by omega
  have BN:=aa (show xE n d=gf n 2 38 cb d by unfold xE;rw[<-b0,if_pos h8]);have HE:=BD n u 38 h cQ im;clear h b0 h8;go_enter func84,ntmps84;go_wp2_with fail;refine HE.mono ?_;rintro e w'⟨rfl,q⟩;go_wp2;go_end0;rw[BN.out];exact⟨J,q⟩
 .have BF:¬(8:Int)<nr:=by omega
  have C4:(i_ (d.T n)).nr<=8:=by show(d.T n).b'.nr<=8;omega
  obtain⟨bd,hR⟩:=af (ky d.mem (d.T n).b'.nr (d.T n).dI (bx (d.T n).b'.nr) fun _=>dE);have ZS:bd=ky d.mem (i_ (d.T n)).nr (fk (i_ (d.T n))) (bx (i_ (d.T n)).nr) fun _=>dE:=by rw[hR];exact(aaF _ _ fun i hi=>aiL _ _ (sj hi).2.1).symm
  have BN:=aa (show xE n d=if bd.2=0 then gf n 1 0 bd.1 d else gf n 2 (bd.2:Nat) cb d by unfold xE;rw[<-b0,if_neg h8,b0,WA,<-hR]);have HL:=fun X(hX:aD W.heap.size W X)=>(show ap ae 120 #[av (U ⟨g,3,ab⟩),cR (i_ (d.T n))] X fun e w'=>e=aq (az #[qv (ky d.mem (i_ (d.T n)).nr (fk (i_ (d.T n))) (bx (i_ (d.T n)).nr) fun _=>dE).1,I R ((ky d.mem (i_ (d.T n)).nr (fk (i_ (d.T n))) (bx (i_ (d.T n)).nr) fun _=>dE).2:Nat)])/\aD X.heap.size X w' from ajU (h.mem.au hX) (i_ (d.T n)) z C4);rw[<-ZS]at HL;obtain⟨vv,f⟩:=bd;simp only at HL BN;unfold cR qv at HL;obtain⟨kc,kV⟩:=af (bX (i_ (d.T n)));obtain⟨vc,ja⟩:=af (eU vv);have uA:kc.toList.length=6:=by rw[kV];rfl
  have j9:vc.size=12:=by rw[ja];rfl
  have oD:vc.all (·.oneCell')=true:=by rw[ja];exact Ep _
  rw[<-kV,<-ja]at HL;have AC:=aa ((aS W.heap.size W).drew);have dw:=aa ((ai W (.cells #[ad ⟨#[]⟩,I aj 0,I R 0,ad ⟨#[]⟩,I aj 0,I R 0,ad ⟨#[]⟩,I aj 0,I R 0,ad ⟨#[]⟩,I aj 0,I R 0] 73)).drew);have WD:W.drew.rangeAt g (783+n*31+7) kc.toList:=by rw[kV];exact(h.au AC.out).Oz n u
  have VK:(W.alloc (.cells #[ad ⟨#[]⟩,I aj 0,I R 0,ad ⟨#[]⟩,I aj 0,I R 0,ad ⟨#[]⟩,I aj 0,I R 0,ad ⟨#[]⟩,I aj 0,I R 0] 73)).drew.rangeAt g (783+n*31+7) kc.toList:=by rw[kV];exact(h.au dw.out).Oz n u
  have zb:(W.alloc (.cells #[ad ⟨#[]⟩,I aj 0,I R 0,ad ⟨#[]⟩,I aj 0,I R 0,ad ⟨#[]⟩,I aj 0,I R 0,ad ⟨#[]⟩,I aj 0,I R 0] 73)).drew.heap[W.heap.size]?=U (.cells #[ad ⟨#[]⟩,I aj 0,I R 0,ad ⟨#[]⟩,I aj 0,I R 0,ad ⟨#[]⟩,I aj 0,I R 0,ad ⟨#[]⟩,I aj 0,I R 0] 73 (0,0)):=a7 W _;have Cf:=fun X(hX:DX g P d E y X)=>(show ap ae 112 #[av (U ⟨g,0,ab⟩),I R n,I R 1,I R 0,aw (eU vv)] X (kw g P (gf n 1 0 vv d) E y X)from OW n u 1 0 vv hX cQ im);have Di:=fun X(hX:DX g P d E y X)=>BD n u (f:Nat) hX cQ im;rw[<-ja]at Cf;clear h b0 h8 C4 hR ZS kV ja z im;go_enter func84,ntmps84;go_wp2_with fail;go_cut[5,6](fun eG BB wc=>BB=I R (f:Nat)/\∃r5:Nat,eG=av (U ⟨r5,0,ab⟩)/\Hid (aD W.heap.size W wc)/\Hid (wc.heap[r5]?=U (.cells vc 73 (0,0))));case first=>
   as_aux_lemma=>
    refine mj (by kernel_rfl) ?_;change wpAny _ _ _ _ _ _ _ (ll _);refine aW 0 (U 23) (av (U ⟨g,0,ab⟩)) ?_;try simp only[ar,LT]
    refine aW 1 (U 24) (av (U ⟨g,0,ab⟩)) ?_;try simp only[ar,LT]
    refine aW 2 (U 25) (av (U ⟨g,3,ab⟩)) ?_;try simp only[ar,LT]
    refine aW 3 (U 26) (av (U ⟨g,783+n*31,ab⟩)) ?_;try simp only[ar,LT]
    refine aW 4 (U 27) (av (U ⟨g,783+n*31,ab⟩)) ?_;try simp only[ar,LT]
    refine aW 5 (U 28) (av (U ⟨g,783+n*31+7,ab⟩)) ?_;try simp only[ar,LT]
    refine iV (i:=6) (j:=11) (by kernel_rfl) J J J J (fun K A=>?_) (fun K A=>?_)
    .refine FQ 68 (.tmp 28) J g (783+n*31+7) J kc.toList _ WD underlying68 J (by rw[uA];exact Ah) ?_;rw[show kc.toList.toArray=kc from ze];refine A _ _ ?_;clear A K;try simp only[ar,LT]
     refine iV (i:=7) (j:=11) (by kernel_rfl) J J J J (fun K A=>?_) (fun K A=>?_)
     .refine Gl.lf 120 #[av (U ⟨g,3,ab⟩),aw kc] (by kernel_rfl) (HL W.drew AC.out) ?_;rintro e Y⟨rfl,hY⟩;have jh:=aa (ax AC.out hY);clear hY;refine⟨_,J,A _ _ ?_⟩;clear A K;try simp only[ar,LT]
      refine aW 8 (U 22) (az #[aw vc,I R (f:Nat)]) ?_;try simp only[ar,LT]
      refine aW 9 (U 31) (aw vc) ?_;try simp only[ar,LT]
      refine aW 10 (U 32) (I R (f:Nat)) ?_;try simp only[ar,LT]
      refine aR 11 fun K A=>?_;go_simp;refine A _ _ ?_;clear A K;try simp only[ar,LT]
      have AG:(Y.alloc (.cells #[ad ⟨#[]⟩,I aj 0,I R 0,ad ⟨#[]⟩,I aj 0,I R 0,ad ⟨#[]⟩,I aj 0,I R 0,ad ⟨#[]⟩,I aj 0,I R 0] 73)).heap[Y.heap.size]?=U (.cells #[ad ⟨#[]⟩,I aj 0,I R 0,ad ⟨#[]⟩,I aj 0,I R 0,ad ⟨#[]⟩,I aj 0,I R 0,ad ⟨#[]⟩,I aj 0,I R 0] 73 (0,0)):=a7 Y _;refine aR 12 fun K A=>?_;refine TZ 73 _ _ J Y.heap.size vc J J 73 _ AG (by rw[j9];exact vh) (by rw[j9];rfl) oD ?_;refine A _ _ ?_;clear A K;try simp only[ar]
      refine aR 13 fun K A=>?_;go_simp;refine A _ _ ?_;clear A K;try simp only[ar,LT]
      refine dH (by kernel_rfl) ?_ _;go_wp2_with fail;go_meet;case rel=>exact⟨J,Y.heap.size,J,aa (below_setRow (ax jh.out (ai Y _)) (jh.out.size) vc),aa (aV _ _ _ _ _ _ AG)⟩
     .go_simp;refine A _ _ ?_;clear A K;try simp only[ar,LT]
      refine aR 7 fun K A=>?_;refine Gl.lf 120 #[av (U ⟨g,3,ab⟩),aw kc] (by kernel_rfl) (HL (W.alloc (.cells #[ad ⟨#[]⟩,I aj 0,I R 0,ad ⟨#[]⟩,I aj 0,I R 0,ad ⟨#[]⟩,I aj 0,I R 0,ad ⟨#[]⟩,I aj 0,I R 0] 73)).drew dw.out) ?_;rintro e Y⟨rfl,hY⟩;have jh:=aa (ax dw.out hY);have AG:=(hY.block W.heap.size (by show _<(W.alloc _).heap.size;rw[bA];exact tV _)).trans zb;clear hY;refine⟨_,J,A _ _ ?_⟩;clear A K;try simp only[ar,LT]
      refine aW 8 (U 22) (az #[aw vc,I R (f:Nat)]) ?_;try simp only[ar,LT]
      refine aW 9 (U 31) (aw vc) ?_;try simp only[ar,LT]
      refine aW 10 (U 32) (I R (f:Nat)) ?_;try simp only[ar,LT]
      refine aR 12 fun K A=>?_;refine TZ 73 _ _ J W.heap.size vc J J 73 _ AG (by rw[j9];exact vh) (by rw[j9];rfl) oD ?_;refine A _ _ ?_;clear A K;try simp only[ar]
      refine aR 13 fun K A=>?_;go_simp;refine A _ _ ?_;clear A K;try simp only[ar,LT]
      refine dH (by kernel_rfl) ?_ _;go_wp2_with fail;go_meet;case rel=>exact⟨J,W.heap.size,J,aa (below_setRow jh.out (aA _) vc),aa (aV _ _ _ _ _ _ AG)⟩
    .go_simp;refine A _ _ ?_;clear A K;try simp only[ar,LT]
     refine aR 6 fun K A=>?_;refine FQ 68 (.tmp 28) J g (783+n*31+7) J kc.toList _ VK underlying68 J (by rw[uA];exact Ah) ?_;rw[show kc.toList.toArray=kc from ze];refine A _ _ ?_;clear A K;try simp only[ar,LT]
     refine aR 7 fun K A=>?_;refine Gl.lf 120 #[av (U ⟨g,3,ab⟩),aw kc] (by kernel_rfl) (HL (W.alloc (.cells #[ad ⟨#[]⟩,I aj 0,I R 0,ad ⟨#[]⟩,I aj 0,I R 0,ad ⟨#[]⟩,I aj 0,I R 0,ad ⟨#[]⟩,I aj 0,I R 0] 73)).drew dw.out) ?_;rintro e Y⟨rfl,hY⟩;have jh:=aa (ax dw.out hY);have AG:=(hY.block W.heap.size (by show _<(W.alloc _).heap.size;rw[bA];exact tV _)).trans zb;clear hY;refine⟨_,J,A _ _ ?_⟩;clear A K;try simp only[ar,LT]
     refine aW 8 (U 22) (az #[aw vc,I R (f:Nat)]) ?_;try simp only[ar,LT]
     refine aW 9 (U 31) (aw vc) ?_;try simp only[ar,LT]
     refine aW 10 (U 32) (I R (f:Nat)) ?_;try simp only[ar,LT]
     refine aR 12 fun K A=>?_;refine TZ 73 _ _ J W.heap.size vc J J 73 _ AG (by rw[j9];exact vh) (by rw[j9];rfl) oD ?_;refine A _ _ ?_;clear A K;try simp only[ar]
     refine aR 13 fun K A=>?_;go_simp;refine A _ _ ?_;clear A K;try simp only[ar,LT]
     refine dH (by kernel_rfl) ?_ _;go_wp2_with fail;go_meet;case rel=>exact⟨J,W.heap.size,J,aa (below_setRow jh.out (aA _) vc),aa (aV _ _ _ _ _ _ AG)⟩
  case rest=>
   as_aux_lemma=>
    obtain⟨rfl,r5,rfl,S,HR⟩:=hcut;clear WD VK zb HL AC dw y4;have HX:=aa (HH.out.au S.out);have gF:=aa (bi.bk (g:=g) E y S.out);by_cases M:f=0
    .rw[if_pos M]at BN;have f0:¬(0:Int)<(f:Nat):=by omega
     have eV:=HR.out;have HE:=Cf wc HX.out;clear M Di Cf;go_wp2_with(refine vC J 73 (.tmp 5) J r5 J 73 vc (0,0) _ eV underlying73 J (by rw[j9];exact vh) ?_);refine HE.mono ?_;rintro e w' hG;obtain⟨rfl,q⟩:=kw.nF gF.out hG;clear hG;go_wp2;go_end0;rw[BN.out];exact⟨J,q⟩
    .rw[if_neg M]at BN;have f0:(0:Int)<(f:Nat):=by omega
     have HE:=Di wc HX.out;clear M Di Cf;go_wp2_with fail;refine HE.mono ?_;rintro e w' hG;obtain⟨rfl,q⟩:=kw.nF gF.out hG;clear hG;go_wp2;go_end0;rw[BN.out];exact⟨J,q⟩
set_option maxHeartbeats 4000000 in set_option maxRecDepth 20000 in theorem abt{g:Nat}{P:PV}{d:bC}{E:Nat->ag}{y:ag}{W:ac}(n:Nat)(u:n<3)(h8:(d.T n).b'.nr<=8)(fZ:(d.T n).a6<4)(h:DX g P d E y W):ap ae 114 #[av (U ⟨g,0,ab⟩),I R n] W (kw g P (ua n (d.T n) d) E y W):=by
 have rU:¬(n:Int)<0:=by omega
 have j1:(0:Int)<=n:=by omega
 have j2:¬(2:Int)<n:=by omega
 have n9:(n:Int)<3:=by omega
 obtain⟨k,eQ⟩:=af (i_ (d.T n));obtain⟨aY,tL⟩:=af (d.T n).a6;obtain⟨np,D3⟩:=af (ji k.nr (aY+1));have Bv:k.nr=(d.T n).b'.nr:=by rw[eQ];rfl
 have o6:=aa (show ua n (d.T n) d=d.put n {d.T n with a6:=np,phase:=if np=4 then 3 else(d.T n).phase}by rw[D3,Bv,tL];rfl);rw[<-tL]at fZ;rw[<-Bv]at h8;have a0:AX R ((aY:Int)+1)=(aY:Int)+1:=by rw[jP]<;>omega
 have HH:=aa (h.au (aS _ W).drew);have nE:=aa (bi.bk (g:=g) E y (aS _ W).drew);obtain⟨x1,x2,x3,x4,x5,x6⟩:=HH.out.Y6 n u;rw[<-eQ]at x1 x2 x3 x4 x5 x6;have x0:W.drew.cell? ⟨g,783+n*31+17,ab⟩=U (I R (aY:Nat)):=by rw[HH.out.th n 17 u (by omega),tL];rfl
 have HP:ap ae 79 #[cR k,I R ((aY:Int)+1)] W.drew fun e w'=>e=aq (I R (ji k.nr (aY+1):Nat))/\aD W.drew.heap.size W.drew w':=YQ k h8 (aY+1) (by omega) W.drew;unfold cR bX at HP;rw[<-D3]at HP;have HA:Hid (∀w2,aD W.drew.heap.size W.drew w2->DX g P (d.put n {d.T n with a6:=np}) E y (w2.setCell ⟨g,783+n*31+17,ab⟩ (I R (np:Nat)))/\bi g E y E y W (w2.setCell ⟨g,783+n*31+17,ab⟩ (I R (np:Nat)))):=aa (fun w2 c_=>⟨(HH.out.au c_).wg n 17 u (by omega) _ _ J (fun j _=>aal _ _ _ j),nE.out.trans ((bi.bk E y c_).trans (bi.set E y _ _ _))⟩);have Yw:Hid (∀w2,aD W.drew.heap.size W.drew w2->w2.cell? ⟨g,783+n*31+17,ab⟩=U (I R (aY:Nat))/\w2.frozen? ⟨g,783+n*31+17,ab⟩=false):=aa (fun w2 c_=>⟨ao c_ x0,(HH.out.au c_).b5 _⟩);clear h eQ tL D3 Bv h8;go_enter func114,ntmps114;go_wp2_with fail;refine mj (by kernel_rfl) ?_;change wpAny _ _ _ _ _ _ _ (ll _);refine aW 0 (U 10) (av (U ⟨g,783+n*31,ab⟩)) ?_;try simp only[ar,LT]
 refine aW 1 (U 11) (av (U ⟨g,783+n*31,ab⟩)) ?_;try simp only[ar,LT]
 refine aW 2 (U 12) (av (U ⟨g,783+n*31,ab⟩)) ?_;try simp only[ar,LT]
 refine aW 3 (U 13) (av (U ⟨g,783+n*31+7,ab⟩)) ?_;try simp only[ar,LT]
 refine aW 5 (U 15) (av (U ⟨g,783+n*31,ab⟩)) ?_;try simp only[ar,LT]
 refine aW 6 (U 16) (av (U ⟨g,783+n*31,ab⟩)) ?_;try simp only[ar,LT]
 refine aW 7 (U 17) (av (U ⟨g,783+n*31+17,ab⟩)) ?_;try simp only[ar,LT]
 refine iV (i:=4) (j:=8) (by kernel_rfl) J J J J (fun K A=>?_) (fun K A=>?_)
 .go_simp;refine A _ _ ?_;clear A K;try simp only[ar,LT]
  refine aR 8 fun K A=>?_;go_simp;refine A _ _ ?_;clear A K;try simp only[ar,LT]
  refine aW 9 (U 19) (I R ((aY:Int)+1)) ?_;try simp only[ar,LT]
  refine aR 10 fun K A=>?_;refine Gl.lf 79 #[aw #[I aj k.ej,I aj k.nr,I ah k.a0,I ah k.bR,I ah k.a2,I ah k.a3],I R ((aY:Int)+1)] (by kernel_rfl) HP ?_;rintro e w2⟨rfl,c_⟩;obtain⟨Gm,QE⟩:=Yw.out w2 c_;refine⟨_,J,A _ _ ?_⟩;clear A K;try simp only[ar,LT]
  refine aR 11 fun K A=>?_;go_simp;refine A _ _ ?_;clear A K;try simp only[ar,LT]
  refine aR 12 fun K A=>?_;go_simp;refine A _ _ ?_;clear A K;try simp only[ar,LT]
  refine aR 13 fun K A=>?_;go_simp;refine A _ _ ?_;clear A K;try simp only[ar,LT]
  refine dH (by kernel_rfl) ?_ _;obtain⟨aK,hZ⟩:=af (w2.setCell ⟨g,783+n*31+17,ab⟩ (I R (np:Nat)));have HZ:=aa (HA.out w2 c_);rw[<-hZ]at HZ;have dj:=HZ.out.1.th n 17 u (by omega);rw[iK]at dj;replace dj:aK.cell? ⟨g,783+n*31+17,ab⟩=U (I R (np:Nat)):=dj;clear c_ Gm QE;rw[<-hZ];clear hZ;by_cases h4:np=4
  .have rW:((np:Int)==4)=true:=by simpa using(show(np:Int)=4 by omega)
   have cp:=HZ.out.1.phase n u;have Cp:=HZ.out.1.b5 (783+n*31);have HS:=aa (HZ.out.1.sk n 3 u);rw[iK,Bk]at HS;rw[if_pos h4]at o6;clear h4;go_wp2;go_end0;refine⟨J,E,y,?_,HZ.out.2.trans (bi.set E y _ _ _)⟩;rw[o6.out];exact HS.out
  .have rW:((np:Int)==4)=false:=by simpa using(show¬(np:Int)=4 by omega)
   rw[if_neg h4]at o6;clear h4;go_wp2;go_end0;refine⟨J,E,y,?_,HZ.out.2⟩;rw[o6.out];exact HZ.out.1
 .go_simp;refine A _ _ ?_;clear A K;try simp only[ar,LT]
  refine aW 9 (U 19) (I R ((aY:Int)+1)) ?_;try simp only[ar,LT]
  refine aR 4 fun K A=>?_;go_simp;refine A _ _ ?_;clear A K;try simp only[ar,LT]
  refine aR 10 fun K A=>?_;refine Gl.lf 79 #[aw #[I aj k.ej,I aj k.nr,I ah k.a0,I ah k.bR,I ah k.a2,I ah k.a3],I R ((aY:Int)+1)] (by kernel_rfl) HP ?_;rintro e w2⟨rfl,c_⟩;obtain⟨Gm,QE⟩:=Yw.out w2 c_;refine⟨_,J,A _ _ ?_⟩;clear A K;try simp only[ar,LT]
  refine aR 11 fun K A=>?_;go_simp;refine A _ _ ?_;clear A K;try simp only[ar,LT]
  refine aR 12 fun K A=>?_;go_simp;refine A _ _ ?_;clear A K;try simp only[ar,LT]
  refine aR 13 fun K A=>?_;go_simp;refine A _ _ ?_;clear A K;try simp only[ar,LT]
  refine dH (by kernel_rfl) ?_ _;obtain⟨aK,hZ⟩:=af (w2.setCell ⟨g,783+n*31+17,ab⟩ (I R (np:Nat)));have HZ:=aa (HA.out w2 c_);rw[<-hZ]at HZ;have dj:=HZ.out.1.th n 17 u (by omega);rw[iK]at dj;replace dj:aK.cell? ⟨g,783+n*31+17,ab⟩=U (I R (np:Nat)):=dj;clear c_ Gm QE;rw[<-hZ];clear hZ;by_cases h4:np=4
  .have rW:((np:Int)==4)=true:=by simpa using(show(np:Int)=4 by omega)
   have cp:=HZ.out.1.phase n u;have Cp:=HZ.out.1.b5 (783+n*31);have HS:=aa (HZ.out.1.sk n 3 u);rw[iK,Bk]at HS;rw[if_pos h4]at o6;clear h4;go_wp2;go_end0;refine⟨J,E,y,?_,HZ.out.2.trans (bi.set E y _ _ _)⟩;rw[o6.out];exact HS.out
  .have rW:((np:Int)==4)=false:=by simpa using(show¬(np:Int)=4 by omega)
   rw[if_neg h4]at o6;clear h4;go_wp2;go_end0;refine⟨J,E,y,?_,HZ.out.2⟩;rw[o6.out];exact HZ.out.1
end Go.Proofs.YtefdakbahplnbaaGreatDoor
