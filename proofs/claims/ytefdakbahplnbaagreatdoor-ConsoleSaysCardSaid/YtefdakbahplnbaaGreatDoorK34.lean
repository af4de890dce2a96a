/- Step of any thread, Enter of any: what they make of a ward. -/
import Derived.Test.YtefdakbahplnbaaGreatDoorK30
import Derived.Test.YtefdakbahplnbaaGreatDoorK31
import Derived.Test.YtefdakbahplnbaaGreatDoorK32
import Derived.Test.YtefdakbahplnbaaGreatDoorK29
import Derived.Test.YtefdakbahplnbaaGreatDoorK24
open Go.Proofs.Tryz
open Array renaming getElem?_eq_some_iff->bM
open ByteArray renaming append_assoc->xj,append_empty->api,empty->fH,size_append->ml
open Go renaming Addr->bl,Calls->ap,Regrown->eh,TypeId->c6,Value->ag,World->ac,below_regrown->cN,bodyPost_ret->ba,cell_of_row->aT,cell_regrown->aJ,frozen_of_row->cy,heap_alloc_new->a7,heap_alloc_old->AU,results_cell_row->kM,results_cell_tmp->xf,run_loadVar_row->tT,run_underlying->sJ,setCell_eq_setRow->cJ,setRow_heap->aV,wpList_load_row->vC,wpList_store_row->bK,wpQuiet_nil->e6,wp_region_quiet_below->fI
open Go.Calls renaming regrown_of->fU
open Go.Ending renaming returned->aq
open Go.Instr renaming slice->pp,sliceBound->FT,sliceBounds->FR
open Go.IntKind renaming i64->R,u32->aj,u64->ah,wrap_i64->jP
open Go.Lib renaming decDigits->aQ,join->vy,joinTail->acF
open Go.Proofs.Tryz renaming prog->ae
open Go.RowKit renaming Below->aD
open Go.RowKit.Below renaming heap_setCell->mV,refl->aS
open Go.Value renaming agg->aw,bool->aH,int->I,oneCell'->fG,pointer->av,slice->ak,string->ad,tuple->az
open Go.World renaming size_alloc->bA
open Int renaming toNat_natCast->d_
open List renaming getElem?_append_left->vG,getElem?_append_right->vF,getElem?_drop->JG,getElem?_eq_getElem->cq,getElem?_eq_some_iff->pb,getElem?_map->nK,getElem?_toArray->cK,length_append->cl,length_cons->fh,length_drop->pd,length_map->oB,length_nil->nI,length_take->nJ,mem_cons_of_mem->vA,mem_cons_self->tP,mem_of_getElem?->iy,take_add_one->sH,take_length->sE
open Nat renaming le_refl->aA,le_trans->bL,zero_add->ru
open Option renaming map_eq_some_iff->qh,none->ab,some->U
namespace Go.Proofs.YtefdakbahplnbaaGreatDoor
open Go.RowKit Mm
def Rj(g O:Nat)(P:PV)(r:WS×Bool×Nat)(y:ag)(W:ac)(e:Ending)(w':ac):Prop:=e=aq (az #[aH r.2.1,cj r.2.2])/\∃a8,WX g O P r.1 a8 w'/\Fr g O y a8 W w'
theorem ajN{g O:Nat}{P:PV}{s:WS}{y:ag}{W:ac}(n:Int)(hp:cM P.p=0)(hi:dT P.p s)(h:WX g O P s y W)(cQ:s.aX.length<=1000000):ap ae 104 #[av (U ⟨g,0,ab⟩),I R n] W (Rj g O P (gA P.p n s) y W):=by
 by_cases u:0<=n/\n<3
 .obtain⟨k,rfl⟩:∃k:Nat,n=k:=⟨n.toNat,by omega⟩;have z:k<3:=by omega
  have ht:=hi.cg k z;have F:gA P.p k s=if(s.T k).phase=6 then(s,false,8)else if(s.T k).phase=0 then(s,false,0)else(fb P.p k s,true,0):=by unfold gA;rw[if_pos u,d_]
  rw[F];have go:∀(ph:Nat),(s.T k).phase=ph->ph≠6->ph≠0->(ap ae 104 #[av (U ⟨g,0,ab⟩),I R k] W fun e w'=>e=aq (az #[aH true, .nilIface])/\∃a8,WX g O P (fb P.p k s) a8 w'/\Fr g O y a8 W w')->ap ae 104 #[av (U ⟨g,0,ab⟩),I R k] W (Rj g O P (if(s.T k).phase=6 then(s,false,8)else if(s.T k).phase=0 then(s,false,0)else(fb P.p k s,true,0)) y W):=by intro ph h0 h6 Sw H;rw[if_neg (by omega),if_neg (by omega)];exact H
  rcases Pt ht.ph with h0|h0|h0|h0|h0|h0|h0;.rw[if_neg (by omega),if_pos h0];exact(af8 k z h0 h).mono fun e w'⟨he,hw⟩=>⟨he,y,by rw[hw];exact h,by rw[hw];exact Fr.refl _ _ _ _⟩
  .refine go 1 h0 (by omega) (by omega) ?_;rw[show fb P.p k s=uG P.p k s by unfold fb;simp only[h0]];exact aej k z h0 h ((aeC k z hp ht.kl h cQ).mono fun e w' hg=>hg)
  .refine go 2 h0 (by omega) (by omega) ?_;rw[show fb P.p k s=so k s by unfold fb;simp only[h0]];exact alN k z h0 h ((amq k z hi h0 h cQ).mono fun e w' hg=>hg)
  .refine go 3 h0 (by omega) (by omega) ?_;rw[show fb P.p k s=BK P.p k s by unfold fb;simp only[h0]];exact aj5 k z h0 h ((afN k z hp ht.kl (ht.oH (by omega) (by omega)).vs h cQ).mono fun e w' hg=>hg)
  .refine go 4 h0 (by omega) (by omega) ?_;rw[show fb P.p k s=z8 k s by unfold fb;simp only[h0]];exact alU k z h0 h ((aog k z hi h0 h cQ).mono fun e w' hg=>hg)
  .refine go 5 h0 (by omega) (by omega) ?_;rw[show fb P.p k s=oX k s by unfold fb;simp only[h0]];exact am4 k z h0 h ((aip k z hi h0 h cQ).mono fun e w' hg=>hg)
  .rw[if_pos h0];have M:gW k s=8:=by unfold gW;rw[if_pos u,d_,if_pos h0]
   have H:=Ye (k:Int) (by rw[M];omega) h;rw[M]at H;exact H.mono fun e w'⟨he,hw⟩=>⟨he,y,by rw[hw];exact h,by rw[hw];exact Fr.refl _ _ _ _⟩
 .have F:gA P.p n s=(s,false,1):=by unfold gA;rw[if_neg u]
  have M:gW n s=1:=by unfold gW;rw[if_neg u]
  rw[F];have H:=Ye n (by rw[M];omega) h;rw[M]at H;exact H.mono fun e w'⟨he,hw⟩=>⟨he,y,by rw[hw];exact h,by rw[hw];exact Fr.refl _ _ _ _⟩
theorem agy{g O:Nat}{P:PV}{s:WS}{y:ag}{W:ac}(n:Int)(c:KL)(h:WX g O P s y W):ap ae 66 #[av (U ⟨g,0,ab⟩),I R n,cR c] W fun e w'=>e=aq (cj (iu n c s).2)/\WX g O P (iu n c s).1 y w'/\Fr g O y y W w':=by
 by_cases u:0<=n/\n<3
 .obtain⟨k,rfl⟩:∃k:Nat,n=k:=⟨n.toNat,by omega⟩;have z:k<3:=by omega
  have F:iu k c s=if(s.T k).phase=6 then(s,8)else if(s.T k).phase=0 then(s.put k (ui c),0)else(s,7):=by unfold iu;rw[if_pos u,d_]
  rw[F];by_cases h6:(s.T k).phase=6
  .rw[if_pos h6];have M:gW k s=8:=by unfold gW;rw[if_pos u,d_,if_pos h6]
   have H:=aca (k:Int) c (by rw[M];omega) h;rw[M]at H;exact H.mono fun e w'⟨he,hb⟩=>⟨he,h.au hb,Fr.bk y hb⟩
  .rw[if_neg h6];by_cases h0:(s.T k).phase=0;.rw[if_pos h0];exact ai8 k z c h0 h
   .rw[if_neg h0];exact(agn k z c h0 h6 h).mono fun e w'⟨he,hb⟩=>⟨he,h.au hb,Fr.bk y hb⟩
 .have F:iu n c s=(s,1):=by unfold iu;rw[if_neg u]
  have M:gW n s=1:=by unfold gW;rw[if_neg u]
  rw[F];have H:=aca n c (by rw[M];omega) h;rw[M]at H;exact H.mono fun e w'⟨he,hb⟩=>⟨he,h.au hb,Fr.bk y hb⟩
structure WL(p:bj)(g O:Nat)(P:PV)(y:ag)(s:WS)(K:Nat)(V X:ac):Prop where
 iv:P.p=p
 bI:WX g O P s y X
 lO:dT p s
 aX:s.aX.length<=K
 below:aD V.heap.size V X
 g:V.heap.size<=g
 m:V.heap.size<=O
 l:∀k,y.ownBlock=U k->V.heap.size<=k
theorem WL.start{p:bj}{g O:Nat}{P:PV}{V Zb X:ac}(h:NX p g O P Zb X)(hb:aD V.heap.size V Zb):WL p g O P (ak ab 0 0) kJ 0 V X:=⟨h.iv,h.bI,Xb p,aA _,ax hb h.below,bL hb.size h.g,bL hb.size h.m,fun k z=>by cases z⟩
theorem WL.Cy{p:bj}{g O:Nat}{P:PV}{y a8:ag}{s s':WS}{K K':Nat}{V X aK:ac}(h:WL p g O P y s K V X)(hw:WX g O P s' a8 aK)(M:Fr g O y a8 X aK)(hi:dT p s')(hl:s'.aX.length<=K'):WL p g O P a8 s' K' V aK:=⟨h.iv,hw,hi,hl,M.below h.below h.below.size h.g h.m h.l,h.g,h.m,fun k z=>by
 rcases M.CP k z with q|q;.exact h.l k q
 .exact bL h.below.size q⟩
theorem WL.au{p:bj}{g O:Nat}{P:PV}{y:ag}{s:WS}{K:Nat}{V X aK:ac}(h:WL p g O P y s K V X)(hb:aD X.heap.size X aK):WL p g O P y s K V aK:=⟨h.iv,h.bI.au hb,h.lO,h.aX,ax h.below hb,h.g,h.m,h.l⟩
theorem WL.cx{p:bj}{g O:Nat}{P:PV}{y:ag}{s:WS}{K K':Nat}{V X:ac}(h:WL p g O P y s K V X)(z:K<=K'):WL p g O P y s K' V X:=⟨h.iv,h.bI,h.lO,bL h.aX z,h.below,h.g,h.m,h.l⟩
theorem Tm:∀(l:List EN)(i:Nat)(e:EN)(j:Nat),l[i]?=U e->j<21->(gk l)[i*21+j]?=(gE e).toList[j]?
 |[],i,e,j,h,_=>by simp at h
 |x::r,0,e,j,h,hj=>by
  obtain rfl:x=e:=by simpa using h
  show((gE x).toList++gk r)[0*21+j]?=_;rw[Nat.zero_mul,ru,vG (show j<(gE x).toList.length from hj)]
 |x::r,i+1,e,j,h,hj=>by show((gE x).toList++gk r)[(i+1)*21+j]?=_;rw[vF (show(gE x).toList.length<=_ from(by show 21<=_;omega)),show(i+1)*21+j-(gE x).toList.length=i*21+j from(by show(i+1)*21+j-21=_;omega)];exact Tm r i e j (by simpa using h) hj
theorem amS{W:ac}{b:Nat}{l:List EN}(h:W.heap[b]?=U (.cells (gk l).toArray 103 (0,0))){i:Nat}{e:EN}(he:l[i]?=U e)(j:Nat)(hj:j<21){v:ag}(hv:(gE e).toList[j]?=U v):W.cell? ⟨b,i*21+j,ab⟩=U v:=by rw[aT _ _ _ _ _ _ h,cK,Tm l i e j he hj,hv]
end Go.Proofs.YtefdakbahplnbaaGreatDoor
namespace Go.Proofs.YtefdakbahplnbaaGreatDoor
open Go.RowKit
def nf{α:Type}(t:c6)(f:α->ag)(g n:Nat)(xs:List α)(W:ac):Prop:=∃c:Array ag,W.heap[g]?=U (.cells c t (0,0))/\c.size=n/\∀(j:Nat)x,xs[j]?=U x->c[j]?=U (f x)
abbrev Hw:Nat->Nat->List W8->ac->Prop:=nf 9 (fun x=>ad (bs x))
abbrev p8:Nat->Nat->List Nat->ac->Prop:=nf 65 (fun x=>I ah (x:Nat))
theorem nf.lt{α:Type}{t:c6}{f:α->ag}{g n:Nat}{xs:List α}{W:ac}(h:nf t f g n xs W):g<W.heap.size:=h.elim fun _ h=>(bM.1 h.1).1
theorem nf.heap{α:Type}{t:c6}{f:α->ag}{g n:Nat}{xs:List α}{W V:ac}(h:nf t f g n xs W)(e:V.heap[g]?=W.heap[g]?):nf t f g n xs V:=h.imp fun _ h=>⟨e.trans h.1,h.2⟩
theorem nf.au{α:Type}{t:c6}{f:α->ag}{g n:Nat}{xs:List α}{W V:ac}(h:nf t f g n xs W)(hb:aD W.heap.size W V):nf t f g n xs V:=h.heap (hb.block g h.lt)
theorem nf.eu{α:Type}{t:c6}{f:α->ag}{g n:Nat}{xs:List α}{W:ac}(h:nf t f g n xs W){i:Nat}(hi:i<n):(∃v,W.cell? ⟨g,i,ab⟩=U v)/\W.frozen? ⟨g,i,ab⟩=false:=by obtain⟨c,q,h2,_⟩:=h;exact⟨⟨_,by rw[aT _ _ i _ _ _ q];exact Array.getElem?_eq_getElem (by omega)⟩,cy _ _ i _ _ q⟩
theorem nf.cell{α:Type}{t:c6}{f:α->ag}{g n:Nat}{xs:List α}{W:ac}(h:nf t f g n xs W){i:Nat}{x:α}(hx:xs[i]?=U x):W.cell? ⟨g,i,ab⟩=U (f x):=by obtain⟨c,q,_,h3⟩:=h;rw[aT _ _ i _ _ _ q,h3 i x hx]
theorem nf.set{α:Type}{t:c6}{f:α->ag}{g n:Nat}{xs:List α}{W:ac}(h:nf t f g n xs W){i:Nat}(hi:xs.length=i)(u:i<n)(al:α):nf t f g n (xs++[al]) (W.setCell ⟨g,i,ab⟩ (f al)):=by
 obtain⟨c,q,h2,h3⟩:=h;rw[cJ _ _ i _ _ _ _ q];refine⟨_,aV _ _ _ _ _ _ q,by rw[Array.size_setIfInBounds,h2],fun j x hx=>?_⟩;rw[Array.getElem?_setIfInBounds];by_cases hj:i=j;.rw[if_pos hj,if_pos (by omega)];rw[<-hj,<-hi,vF (aA _),Nat.sub_self]at hx;exact congrArg (fun aI=>U (f aI)) (Option.some.inj hx)
 .rw[if_neg hj];refine h3 j x ?_;have hl:j<(xs++[al]).length:=(pb.1 hx).1;rw[cl]at hl;rw[vG (by simp at hl;omega)]at hx;exact hx
theorem Ph{α:Type}{f:α->ag}{a_:Array Oper}{rest:List Oper}{o:Oper}{a:Act}{w:ac}{aE:Exit->Act->ac->Prop}(T t:c6)(hT:ae.underlying T=U (.slice t))(aI:ag)(hz:(ae.info? t).map (fun i=>(i.zero,i.size,decide (i.bytes<=16)))=U (U aI,1,true))(de:o.guard=ab)(x al:Operand)(ho:o.op= .makeSlice T x al)(n:Nat)(hx:a.eval x=I R (n:Int))(hy:a.eval al=I R (n:Int))(u:n<=1000000)(h:∀w',nf t f w.heap.size n [] w'->aD w.heap.size w w'->wpList ae a_ aE rest (a.put o.dst (ak (U ⟨w.heap.size,0,ab⟩) n n)) w'):wpList ae a_ aE (o::rest) a w:=by obtain⟨eq,d8,hi⟩:=qh.1 hz;simp only[Prod.mk.injEq,decide_eq_true_eq]at hi;obtain⟨dh,dD,dz⟩:=hi;have hm:eq.bytes*n<=16*n:=Nat.mul_le_mul_right n dz;have L:=run_make (P:=ae) w T t eq _ hT d8 dh R R (n:Int) (n:Int) (by omega) (Int.le_refl _) (by omega) (by omega);rw[d_,dD]at L;refine wpList_plain de fun K A=>?_;unfold Oper.wp execOp;simp only[ho,hx,hy,Sem.run_bind,L,Result.andThen_ok];exact A _ _ (h _ ⟨_,a7 _ _,by rw[size_madeCells,Nat.mul_one],fun j x hx=>by simp at hx⟩ (ai _ _))
theorem aoC{W:ac}{b:Nat}{l:List EN}(h:W.heap[b]?=U (.cells (gk l).toArray 103 (0,0))){i:Nat}{e:EN}(he:l[i]?=U e):W.rangeAt b (i*21) (gE e).toList:=by intro j v hv;exact amS h he j (by have:=(pb.1 hv).1;exact this) hv
theorem Vf{e:EN}(h:Dq e):(gV e).length<=13000:=by
 have q:=nDigits_le20 e.cg (by have:=h.cg;omega);have h2:=nDigits_le20 e.call.nr (by have:=h.kl.nr;omega);have h3:=nDigits_le20 e.aU.toNat (by have:=h.aU;omega);unfold gV;simp only[cl,fh,nI];split;.simp only[cl,fh,nI];omega
 .split;.simp only[fh,nI];omega
  .have:=IE e.call h.kl e.aG h.vs (h.aB (by assumption) (by assumption)) 4;simp only[cl,fh,nI];omega
theorem al2(gt:W8)(bu:Nat):∀xs:List W8,(∀x∈xs,x.length<=bu)->(vy xs gt).length<=xs.length*(bu+gt.length)
 |[],_=>by rw[Lib.join_nil];simp
 |x::r,h=>by
  have hx:=h x (tP ..);have:∀r:List W8,(∀x∈r,x.length<=bu)->(acF gt r).length<=r.length*(bu+gt.length):=by
   intro r;induction r with
    |nil=>intro _;simp[acF]
    |cons al r ih=>intro h;have:=ih fun x hx=>h x (vA _ hx);have hy:=h al (tP ..);show(gt++al++acF gt r).length<=_;simp only[cl,fh,Nat.succ_mul];omega
  have:=this r fun x hx=>h x (vA _ hx);rw[Lib.join_cons,cl,fh,Nat.succ_mul];omega
theorem aoc(b o m c k l:Nat)(aI al:Int)(hz:aI=k)(hy:al=l)(z:k<=l)(hl:l<=c)(W:ac):(pp 22 (ak (U ⟨b,o,ab⟩) m c) (U (I R aI)) (U (I R al)) ab).run ae W= .ok (ak (U ⟨b,if c=k then o else o+k,ab⟩) (l-k) (c-k)) W:=by
 subst hz hy;have q:(0:Int)<=k:=by omega
 have h2:(k:Int)<=l:=by omega
 have h3:(l:Int)<=c:=by omega
 by_cases H:c=k;.simp[pp,FR,FT,asIntOf,sJ underlying22,go_sem,H];rw[if_pos (by omega),if_pos (by omega)]
 .simp[pp,FR,FT,asIntOf,sJ underlying22,go_sem,H];rw[if_pos (by omega),if_pos (by omega)]
theorem ajO(T t:c6)(hT:ae.underlying T=U (.slice t))(F:∀W,(sizeOf t).run ae W= .ok 1 W)(b m c k:Nat)(aI:Int)(hz:aI=k)(z:k<=m)(hm:m<=c)(W:ac):(pp T (ak (U ⟨b,0,ab⟩) m c) (U (I R aI)) ab ab).run ae W= .ok (ak (U ⟨b,if c=k then 0 else k,ab⟩) (m-k) (c-k)) W:=by
 subst hz;have q:(0:Int)<=k:=by omega
 have h2:(k:Int)<=m:=by omega
 have h3:(m:Int)<=c:=by omega
 by_cases H:c=k;.simp[pp,FR,FT,asIntOf,sJ hT,F,go_sem,H];omega
 .simp[pp,FR,FT,asIntOf,sJ hT,F,go_sem,H];omega
theorem TF(a b:W8):(a==b)=decide (a=b):=by by_cases h:a=b<;>simp[h]
def akt(g:Nat)(Q:List Nat)(w w':ac):Prop:=p8 g Q.length Q w'/\g=w.heap.size
def J9(g:Nat):Option (List Nat)->ag|U Q=>az #[ak (U ⟨g,0,ab⟩) Q.length Q.length,aH true]|ab=>az #[ak ab 0 0,aH false]
theorem K2:∀(l:List W8)(Q:List Nat)(x:W8)(r:List W8),jx l=U Q->jx (l++x::r)=if cz x=true then(jx r).map (fun m=>Q++bW x::m)else ab
 |[],Q,x,r,h=>by obtain rfl:=Option.some.inj h;show(if cz x=true then(jx r).map (bW x::·)else ab)=_;rfl
 |al::l,Q,x,r,h=>by
  unfold jx at h;split at h
  .rename_i hy;obtain⟨m,hm,rfl⟩:=qh.1 h;show(if cz al=true then(jx (l++x::r)).map (bW al::·)else ab)=_;rw[if_pos hy,K2 l m x r hm];split;.rw[Option.map_map];rfl
   .rfl
  .cases h
set_option maxHeartbeats 2000000 in set_option maxRecDepth 20000 in theorem amL(ws:List W8)(c':∀x∈ws,x.length<=9000)(hl:ws.length<=1000)(oa:Option bl)(cap:Nat)(w:ac)(hS:hq oa ws w)(hE:EV w):ap ae 58 #[ak oa ws.length cap] w fun e w'=>(∃g,e=aq (J9 g (jx ws))/\(∀Q,jx ws=U Q->akt g Q w w'))/\aD w.heap.size w w':=by
 obtain⟨bd,hR⟩:=af (jx ws);rw[<-hR];obtain⟨n,u⟩:=af ws.length;rw[<-u]at hl⊢;have HR:=aa hR;have HN:=aa u;have kC:=aa c';have HS:=aa hS;have HE:=aa hE;clear hR u c' hS hE;go_enter func58,ntmps58;go_wp2_with(at_make;refine Ph (f:=fun x:Nat=>I ah (x:Nat)) 74 65 underlying74 (I ah 0) (by kernel_rfl) J _ _ J n ?_ ?_ (by omega) ?_;(.rfl);(.rfl);intro w1 c9 bb);obtain⟨g,hg⟩:=af w.heap.size;rw[<-hg]at c9⊢;have dw:=aa bb;have iJ:=aa c9;have HG:=aa hg;clear c9 bb hg;go_loopw[13](fun aL wr=>∃(i:Nat)(Q:List Nat),i<=n/\aL=I R i/\Hid (jx (ws.take i)=U Q/\Q.length=i)/\Hid (p8 g n Q wr)/\Hid (aD w.heap.size w wr))(fun aL _=>n-(intOf aL).toNat);case atStart=>exact⟨0,[],by omega,J,aa ⟨J,J⟩,iJ,dw⟩
 case round=>
  obtain⟨i,Q,hi,rfl,nS,HU,S⟩:=hrel;clear iJ dw;by_cases am:i<n
  .as_aux_lemma=>
    have xT:(i:Int)<n:=by omega
    have jM:(0:Int)<=i:=by omega
    obtain⟨b,off,rfl,ds,dX⟩:=(HS.out.au S.out).ez (by rw[<-HN.out];omega);obtain⟨x,f'⟩:∃x,ws[i]?=U x:=⟨_,cq (by rw[<-HN.out];exact am)⟩;have c1:=dX i x f';have p7:=ajw x (kC.out x (iy f')) wr (HE.out.au S.out);have HT:=aa (show ws.take (i+1)=ws.take i++[x]by rw[sH,f'];rfl);have HW:=aa (show ws=ws.take i++x::ws.drop (i+1)by
     conv=>lhs;rw[<-List.take_append_drop i ws]
     rw[List.drop_eq_getElem_cons (by rw[<-HN.out];exact am),(pb.1 f').2]);have qd:g<wr.heap.size:=HU.out.lt;obtain⟨⟨v0,c0⟩,f0⟩:=HU.out.eu am;obtain⟨B,N⟩:=af (bs x);rw[<-N]at p7 c1;clear dX f' N;go_wp2_with fail;refine p7.mono ?_;rintro e X⟨⟨ay,rfl,hu⟩,hX⟩;replace c0:=ao hX c0;replace f0:=((kL hX).2 g i qd).trans f0;have ot:=aa (HU.out.au hX);have df:=aa (ax S.out hX);have VY:=aa hu;clear hX p7 hu;cases M:cz x with
     |false=>
      obtain rfl:bd=ab:=by rw[HR.out,HW.out,K2 _ _ _ _ nS.out.1,M];rfl
      go_wp2;go_ret2;exact⟨⟨0,J,fun Q h=>by cases h⟩,df.out⟩
     |true=>
      obtain rfl:ay=bW x:=VY.out M;have yP:=aa (show jx (ws.take (i+1))=U (Q++[bW x])by rw[HT.out,K2 _ _ _ _ nS.out.1,M];rfl);obtain⟨ay,hu⟩:=af (bW x);rw[<-hu]at yP⊢;have be:=aa (ot.out.set nS.out.2 am ay);have l4:=aa (b4.below df.out (by rw[HG.out];exact aA _) df.out.size (b4.set g i X (I ah ay)));clear hu VY M;go_wp2;go_round;case rel=>exact⟨i+1,Q++[ay],by omega,by go_num,aa ⟨yP.out,by rw[cl,nS.out.2];rfl⟩,be,l4⟩
      case measure=>simp[intOf];omega
  .as_aux_lemma=>
    have xT:¬(i:Int)<n:=by omega
    obtain rfl:i=n:=by omega
    obtain⟨q,h2⟩:=nS.out;rw[show ws.take i=ws by rw[HN.out];exact sE]at q;obtain rfl:bd=U Q:=HR.out.trans q;have HV:=aa (show J9 g (U Q)=az #[ak (U ⟨g,0,ab⟩) i i,aH true]by show az #[ak (U ⟨g,0,ab⟩) Q.length Q.length,aH true]=_;rw[h2]);have ot:=aa (show p8 g Q.length Q wr by rw[h2];exact HU.out);clear q h2;go_wp2;go_ret2;exact⟨⟨g,by rw[HV.out];rfl,by first|exact⟨ot.out,HG.out⟩|(intro m hm;cases hm;exact⟨ot.out,HG.out⟩)⟩,S.out⟩
theorem aiG(c:W8)(ws:List W8)(c':∀x∈ws,x.length<=400)(oa:Option bl)(cap:Nat)(w:ac)(hS:hq oa ws w):ap ae 59 #[ad (bs c),ak oa ws.length cap] w fun e w'=>e=aq (az #[ad (bs ((lY c ws).getD [])),aH (lY c ws).isSome])/\aD w.heap.size w w':=by
 obtain⟨n,u⟩:=af ws.length;rw[<-u];have M_:((bs c).toList==[112,117,116])=decide (c=kf):=by rw[lh];exact TF _ _
 by_cases H:c=kf
 .have HV:=aa (show lY c ws=UK ws by unfold lY;rw[if_pos H]);rw[decide_eq_true H]at M_;obtain⟨B,N⟩:=af (bs c);rw[<-N]at M_⊢;clear N H;by_cases q:n=1;.obtain⟨x,rfl⟩:∃x,ws=[x]:=List.length_eq_one_iff.1 (u.symm.trans q);obtain⟨b,off,rfl,ds,dX⟩:=hS.ez (by simp);have c1:=dX 0 x J;have oq:=ahK (bs x) (by rw[ct];exact c' x (tP ..)) w;rw[fy,show iG x=lY c [x]from HV.out.symm]at oq;obtain⟨bd,hR⟩:=af (lY c [x]);rw[<-hR]at oq⊢;obtain⟨al,hy⟩:=af (bs x);rw[<-hy]at oq c1;obtain⟨zo,Eo⟩:=af bd.isSome;obtain⟨rs,tI⟩:=af (bs (bd.getD []));rw[<-Eo,<-tI]at oq⊢;rw[Nat.add_zero]at c1;clear hR hy Eo tI dX u HV c' hS;subst q;go_enter func59,ntmps59;go_wp2_with(go_at_call 95;refine oq.mono ?_;rintro e X⟨rfl,hX⟩);go_ret2;exact⟨J,hX⟩
  .have M5:¬(n:Int)=1:=by omega
   have lK:=aa (show lY c ws=ab by rw[HV.out];match ws,u with|[],_=>rfl|[x],u=>exact absurd u q|_::_::_,_=>rfl);clear HV u hS c';rw[lK.out];go_enter func59,ntmps59;go_wp2;go_ret2;exact⟨J,aS _ _⟩
 .have HV:=aa (show lY c ws=if ws=[]then U []else ab by unfold lY;rw[if_neg H]);rw[decide_eq_false H]at M_;obtain⟨B,N⟩:=af (bs c);rw[<-N]at M_⊢;rw[HV.out];clear N H;by_cases q:n=0;.obtain rfl:ws=[]:=List.length_eq_zero_iff.1 (u.symm.trans q);clear HV u hS c';subst q;rw[if_pos J];go_enter func59,ntmps59;go_wp2;go_ret2;exact⟨J,aS _ _⟩
  .have M5:¬(n:Int)=0:=by omega
   rw[if_neg (fun e=>q (by rw[u,e];rfl))];have h2:((n:Int)==0)=false:=by rw[beq_eq_false_iff_ne];omega
   clear HV u hS c';go_enter func59,ntmps59;go_wp2;go_ret2;exact⟨J,aS _ _⟩
theorem Ev:(ae.info? 68).map (·.size)=U 6:=by kernel_rfl
theorem abE(b o m c k:Nat)(aI:Int)(hz:aI=k)(z:k<=m)(hm:m<c+1)(H:c≠k)(W:ac):(pp 74 (ak (U ⟨b,o,ab⟩) m c) (U (I R aI)) ab ab).run ae W= .ok (ak (U ⟨b,o+k,ab⟩) (m-k) (c-k)) W:=by
 subst hz;have q:(0:Int)<=k:=by omega
 have h2:(k:Int)<=m:=by omega
 have h3:(m:Int)<=c:=by omega
 simp[pp,FR,FT,asIntOf,sJ underlying74,go_sem,H];omega
set_option maxHeartbeats 2000000 in set_option maxRecDepth 20000 in theorem acg(x0 x1 x2 x3 x4:Nat)(h0:x0<18446744073709551616)(_h1:x1<18446744073709551616)(_h2:x2<18446744073709551616)(_h3:x3<18446744073709551616)(_h4:x4<18446744073709551616)(g off:Nat)(w:ac)(c0:w.cell? ⟨g,off,ab⟩=U (I ah x0))(c1:w.cell? ⟨g,off+1,ab⟩=U (I ah x1))(c2:w.cell? ⟨g,off+2,ab⟩=U (I ah x2))(c3:w.cell? ⟨g,off+3,ab⟩=U (I ah x3))(fj:w.cell? ⟨g,off+4,ab⟩=U (I ah x4)):ap ae 67 #[ak (U ⟨g,off,ab⟩) 5 5] w fun e w'=>e=aq (cR ⟨3221225534,min x0 4294967295,x1,x2,x3,x4⟩)/\aD w.heap.size w w':=by
 have G:=afh x0 h0;obtain⟨aI,hz⟩:=af (min x0 4294967295);rw[<-hz]at G⊢;have dz:aI<4294967296:=by omega
 have fP:=abE g off 5 5 1 1 J (by omega) (by omega) (by omega);have d0:=ao (ai w (.cells #[I aj 0,I aj 0,I ah 0,I ah 0,I ah 0,I ah 0] 68)) c0;obtain⟨W2,ex,k9,hx,hy⟩:=qZ w #[I aj 0,I aj 0,I ah 0,I ah 0,I ah 0,I ah 0] #[I aj 3221225534,I aj aI,I ah 0,I ah 0,I ah 0,I ah 0] 68 68;have c9:(w.alloc (.cells #[I aj 0,I aj 0,I ah 0,I ah 0,I ah 0,I ah 0] 68)).heap.size=w.heap.size+1:=bA ..;have m6:W2.heap[w.heap.size+1]?=U (.cells [I aj 3221225534,I aj aI,I ah 0,I ah 0,I ah 0,I ah 0].toArray 68 (0,0)):=by rw[ex,<-c9];exact a7 _ _
 have G':W2.heap[w.heap.size]?=U (.cells #[I aj 0,I aj 0,I ah 0,I ah 0,I ah 0,I ah 0] 68 (0,0)):=by rw[ex];exact(AU _ _ (h:=by rw[c9];omega)).trans (a7 _ _)
 have qW:∀(j:Nat)(v:ag),[I ah x1,I ah x2,I ah x3,I ah x4][j]?=U v->W2.drew.cell? ((⟨g,off+1,ab⟩:bl).add j)=U v:=by intro j v hv;rw[show(⟨g,off+1,ab⟩:bl).add j=⟨g,off+1+j,ab⟩by unfold Addr.add;split<;>simp_all];show W2.cell? _=_;match j,hv with|0,hv=>cases hv;exact ao k9 c1|1,hv=>cases hv;exact ao k9 c2|2,hv=>cases hv;exact ao k9 c3|3,hv=>cases hv;exact ao k9 fj
 have df:=aa k9;have lr:=aa ex;clear hz hx hy ex c9 c1 c2 c3 fj k9;go_enter func67,ntmps67;go_wp2_with(go_at_call 101;refine(G _).mono ?_;rintro e X⟨rfl,hX⟩;rw[hX];clear hX X);rw[<-lr.out];clear lr d0;go_region_held3(fun _=>True)(trivial)((refine step_copy_splice J _ _ 74 74 J 65 underlying74 (by kernel_rfl) _ _ 4 4 4 4 J J (w.heap.size+1) 2 _ 68 m6 [I ah x1,I ah x2,I ah x3,I ah x4] J (fun _=>⟨J,_,J,qW⟩) (by show 6<=6;omega) (by simp[fG]) (w.heap.size+1) W2 (aS _ _).drew (aA _) ?_;intro EB hg4 Ed));have zu:EB.heap[w.heap.size+1]?=U (.cells (bX ⟨3221225534,aI,x1,x2,x3,x4⟩) 68 (0,0)):=hg4.out;have sN:=(Ed.block w.heap.size (by omega)).trans G';have A8:=aa (show aD w.heap.size w EB from df.out.trans (Ed.mono (Nat.le_succ _)));obtain⟨br,hA⟩:=af (bX ⟨3221225534,aI,x1,x2,x3,x4⟩);have lF:br.size=6:=by rw[hA];rfl
 have Tb:br.all (·.oneCell')=true:=by rw[hA];simp[bX,fG]
 rw[<-hA]at zu;have HA:=aa hA;clear hA Ed hg4 m6 G' qW G fP c0;go_wp2_with(first|(refine vC J 68 _ J (w.heap.size+1) J 68 br (0,0) _ zu underlying68 J (by rw[lF];exact Ev) ?_)|(refine bK J 68 _ _ J w.heap.size br J J 68 _ sN (by rw[lF];exact Ev) (by rw[lF];rfl) Tb ?_));exact ba (kM J _ _ w.heap.size 68 br (0,0) _ J (aV _ _ _ _ _ _ sN) underlying68 J (by rw[lF];exact Ev)) J ⟨congrArg (fun x=>aq (aw x)) HA.out,below_setRow A8.out (aA _) _⟩
set_option maxHeartbeats 2000000 in set_option maxRecDepth 20000 in theorem ak'(l:List EN)(bh:∀e∈l,Dq e)(hl:l.length<=200000)(b:Nat)(w:ac)(h:w.heap[b]?=U (.cells (gk l).toArray 103 (0,0)))(hE:EV w):ap ae 73 #[ak (U ⟨b,0,ab⟩) l.length l.length] w fun e w'=>e=aq (ad (bs (yA l)))/\aD w.heap.size w w':=by
 obtain⟨bd,hR⟩:=af (yA l);rw[<-hR];obtain⟨n,u⟩:=af l.length;rw[<-u]at hl⊢;unfold yA at hR;rw[<-u]at hR;by_cases h0:n=0;.rw[if_pos h0]at hR;subst hR;clear u bh h hE;subst h0;go_enter func73,ntmps73;go_wp2;go_ret;exact⟨J,aS _ _⟩
 rw[if_neg h0]at hR;have KM:¬(n:Int)=0:=by omega
 have HR:=aa hR;have HN:=aa u;have kz:=aa bh;have HL:=aa h;have HE:=aa hE;have HJ:=aa (al2 [44,32] 13000 (l.map gV) (fun x hx=>by obtain⟨e,he,rfl⟩:=List.mem_map.1 hx;exact Vf (bh e he)));clear hR u bh h hE;go_enter func73,ntmps73;go_wp2_with(at_make;refine Ph (f:=fun x=>ad (bs x)) 22 9 underlying22 (ad ⟨#[]⟩) (by kernel_rfl) J _ _ J n ?_ ?_ (by omega) ?_;(.rfl);(.rfl);intro w1 c9 bb);obtain⟨g,hg⟩:=af w.heap.size;rw[<-hg]at c9⊢;have dw:=aa bb;have pI:=aa c9;have HG:=aa hg;clear c9 bb hg;go_loopw[13](fun aL wr=>∃i:Nat,i<=n/\aL=I R i/\Hid (Hw g n ((l.take i).map gV) wr)/\Hid (aD w.heap.size w wr))(fun aL _=>n-(intOf aL).toNat);case atStart=>exact⟨0,by omega,J,pI,dw⟩
 case round=>
  obtain⟨i,hi,rfl,HS,S⟩:=hrel;clear pI dw;by_cases am:i<n
  .as_aux_lemma=>
    have xT:(i:Int)<n:=by omega
    have jM:(0:Int)<=i:=by omega
    obtain⟨e,k7⟩:∃e,l[i]?=U e:=⟨_,cq (by rw[<-HN.out];exact am)⟩;have nv:=aoC ((S.out.block b (bM.1 HL.out).1).trans HL.out) k7;have j3:=ahR e (kz.out e (iy k7)) wr (HE.out.au S.out);have HT:=aa (show(l.take (i+1)).map gV=(l.take i).map gV++[gV e]by rw[sH,k7,Option.toList_some,List.map_append];rfl);have ff:=aa (show((l.take i).map gV).length=i by rw[oB,nJ,<-HN.out];omega);obtain⟨⟨v0,c0⟩,f0⟩:=HS.out.eu am;obtain⟨al,hy⟩:=af (gV e);rw[<-hy]at j3 HT;have qd:g<wr.heap.size:=HS.out.lt;obtain⟨br,hA⟩:=af (gE e);rw[<-hA]at nv j3;have lF:br.toList.length=21:=by rw[hA];rfl
    have Lp:br.toList.toArray=br:=by simp
    clear k7 hy hA;go_wp2_with(first|(refine wpList_load_mid J 103 _ J b (i*21) J br.toList _ nv underlying103 J (by rw[lF];exact Nr) ?_;rw[Lp])|(go_at_call 107;refine j3.mono ?_;rintro x X⟨rfl,hX⟩;replace c0:=ao hX c0;replace f0:=((kL hX).2 g i qd).trans f0;have HX:=aa hX;clear hX j3 nv));have dC:=aa ((HS.out.au HX.out).set ff.out am al);rw[<-HT.out]at dC;have df:=aa (b4.below (ax S.out HX.out) (by rw[HG.out];exact aA _) (bL S.out.size HX.out.size) (b4.set g i X (ad (bs al))));go_round;case rel=>exact⟨i+1,by omega,by go_num,dC,df⟩
    case measure=>simp[intOf];omega
  .as_aux_lemma=>
    have xT:¬(i:Int)<n:=by omega
    obtain rfl:i=n:=by omega
    have hS:=HS.out;rw[show l.take i=l by rw[HN.out];exact sE]at hS;have N:((l.map fun e=>bs (gV e)).map (·.data.toList))=l.map gV:=by rw[List.map_map];exact List.map_congr_left fun e _=>fy _
    have Ta:=Tryz.strings_Join g 0 i (l.map fun e=>bs (gV e)) ⟨#[44,32]⟩ wr (fun j x hx=>by rw[nK]at hx;obtain⟨e,he,rfl⟩:=qh.1 hx;rw[ru];exact hS.cell (by rw[nK,he];rfl)) hS.lt (by rw[oB,<-HN.out];omega) (by rw[oB,<-HN.out];exact aA _) (by rw[N];have:=HJ.out;rw[oB,<-HN.out]at this;refine bL this ?_;show i*13002<=_;omega);rw[N,oB,<-HN.out]at Ta;obtain⟨aE,qD⟩:∃aE:ByteArray,aE=⟨(vy (l.map gV) [44,32]).toArray⟩:=⟨_,J⟩;have UD:aE=bs bd:=by rw[qD,HR.out];rfl
    rw[show(⟨(vy (l.map gV) (ByteArray.data ⟨#[44,32]⟩).toList).toArray⟩:ByteArray)=aE from qD.symm,UD]at Ta;clear qD UD hS N;go_wp2_with(go_at_call 108;refine Ta.mono ?_;rintro x X⟨rfl,hX⟩);go_ret;exact⟨J,ax S.out hX⟩
theorem Ec:(ae.info? 119).map (·.size)=U 3:=by kernel_rfl
theorem Iz{fn:Func}{p ay:Tmp}(h:fn.results=#[.cell p 119, .tmp ay])(tmps:Array ag)(w:ac)(g:Nat)(cs:Array ag)(v:ag)(F:cs.size=3)(hp:tmps.getD p undef=av (U ⟨g,0,ab⟩))(hv:tmps.getD ay undef=v)(hg:w.heap[g]?=U (.cells cs 119 (0,0))):(results fn tmps).run ae w= .ok (az #[aw cs,v]) w:=by rw[xf h,hp,hv];have hl:=tT (P:=ae) w g 119 119 cs (0,0) _ hg underlying119 J (by rw[F];exact Ec);simp[asAddr,hl]
def eB(nm:ByteArray)(E:ag)(b:ByteArray):Array ag:=#[ad nm,E,ad b]
theorem anR{X:ac}{g:Nat}{nm b:ByteArray}{E:ag}(h:X.heap[g]?=U (.cells (eB nm E b) 119 (0,0)))(fL:ByteArray):(X.setCell ⟨g,2,ab⟩ (ad fL)).heap[g]?=U (.cells (eB nm E fL) 119 (0,0)):=by rw[cJ _ _ 2 _ _ _ _ h];exact aV _ _ _ _ _ _ h
def Cn(bp:W8)(w:ac)(e:Ending)(w':ac):Prop:=∃nm o n m b,e=aq (az #[aw (eB nm (ak o n m) b),aH (iN bp).isSome])/\∀c,iN bp=U c->nm=bs c.1/\b=bs c.2.2/\∃g,o=U ⟨g,0,ab⟩/\n=c.2.1.length/\m=c.2.1.length/\w.heap.size<=g/\p8 g n c.2.1 w'
theorem Cn.mQ{bp:W8}(h:iN bp=ab)(nm:ByteArray)(o:Option bl)(n m:Nat)(b:ByteArray)(w w':ac):Cn bp w (aq (az #[aw (eB nm (ak o n m) b),aH false])) w':=⟨nm,o,n,m,b,by rw[h];rfl,fun c H=>by rw[h]at H;cases H⟩
set_option maxHeartbeats 4000000 in set_option maxRecDepth 20000 in theorem agI(bp:W8)(ve:bp.length<=400)(w:ac)(hE:EV w):ap ae 38 #[ad (bs bp)] w fun e w'=>Cn bp w e w'/\aD w.heap.size w w':=by
 obtain⟨V,hV,hB,cP,hx⟩:=eN w #[ad ⟨#[]⟩,ak ab 0 0,ad ⟨#[]⟩] 119;have xA:=aa (show V.heap[w.heap.size]?=U (.cells (eB ⟨#[]⟩ (ak ab 0 0) ⟨#[]⟩) 119 (0,0))by rw[hV];exact a7 w _);have S:=aa hB;have HE:=aa (hE.au hB);obtain⟨B,N⟩:=af (bs bp);have ks:B.size=bp.length:=by rw[N,ct]
 have Er:B.data.toList=bp:=by rw[N,fy]
 rw[<-N];clear N hx hB hE;by_cases IP:300<bp.length
 .have HN:=aa (show iN bp=ab by unfold iN;rw[if_pos IP]);have hl:(300:Int)<B.size:=by omega
  have L:=xA.out;have HV:=aa hV;clear ks Er IP ve hV;go_enter func38,ntmps38;go_wp2;rw[<-HV.out];exact ba (Iz J _ _ w.heap.size (eB ⟨#[]⟩ (ak ab 0 0) ⟨#[]⟩) _ J J J L) J ⟨Cn.mQ HN.out _ _ _ _ _ _ _,S.out⟩
 have hl:¬(300:Int)<B.size:=by omega
 have dx:=LV B 32 (by omega) V HE.out;rw[Er]at dx;have e8:=Tc bp;have hr:=aa (show iN bp=nQ ((ck 32 bp).headD []) (ck 32 bp).tail by unfold iN;rw[if_neg IP]);have kC:=aa (yd (c:=32) (l:=bp) (n:=400) ve);have cY:=yI (c:=32) bp;obtain⟨ws,JC⟩:=af (ck 32 bp);rw[<-JC]at dx e8 hr kC cY;obtain⟨c,H⟩:=af (ws.headD []);obtain⟨r,L⟩:=af ws.tail;rw[<-H,<-L]at e8 hr;obtain⟨n,u⟩:=af ws.length;rw[<-u]at dx cY;have rL:r.length+1=n:=by rw[u,e8];rfl
 obtain⟨W2,ex,k9,hx,hy⟩:=qZ V (o0 ws) #[ad (bs c),ak ab 0 0,ad ⟨#[]⟩] 9 119;have yK:(V.alloc (.cells (o0 ws) 9)).heap.size=V.heap.size+1:=bA ..;have fz:=aa (show hq (U ⟨V.heap.size,0,ab⟩) ws W2 from⟨fun _=>⟨_,0,J,by rw[ex,bA,yK];omega,fun j x hj=>by rw[ru,hx j];unfold o0;rw[cK,nK,hj];rfl⟩⟩);have x0:(V.alloc (.cells (o0 ws) 9)).cell? ⟨V.heap.size,0,ab⟩=U (ad (bs c)):=by rw[World.cell?_alloc_new,e8];rfl
 have y0:=hy 0;have y1:=hy 1;have y2:=hy 2;simp only[cK,List.getElem?_cons_zero,List.getElem?_cons_succ]at y0 y1 y2;have HY:=aa (show W2.heap[V.heap.size+1]?=U (.cells (eB (bs c) (ak ab 0 0) ⟨#[]⟩) 119 (0,0))by rw[ex,<-yK];exact a7 _ _);have Tu:=aa ((k9.block _ cP).trans xA.out);have Di:=aa (HE.out.au k9);have ab6:=aa (ax S.out k9);have HV:=aa hV;have fv:=fun r0 W(h:KW 1 r0 W)=>YF h c;have qz:=aa e8;have lr:=aa ex;have dC:=aa yK;clear hx hy k9 Er ks IP ve hV e8 JC H L ex yK xA HE S;have kO:=aa (show True from trivial);obtain⟨D,hB⟩:=af V.heap.size;rw[<-hB]at fz x0 y0 y1 y2 HY dC dx;have E2:=aa hB;obtain⟨nm,qw⟩:=af (bs c);rw[<-qw]at x0 y0 HY fv lr;have kt:=aa qw;clear hB qw;go_enter func38,ntmps38;have HN:=aa u;have Gu:=aa x0;clear u x0;go_wp2_with fail;rw[<-HV.out];refine dx.mono ?_;rintro e W1⟨rfl,dU⟩;have x0:W1.cell? ⟨D,0,ab⟩=U (ad nm):=by rw[dU];exact Gu.out
 have Rv:=aa dU;clear dU Gu dx;go_wp2_with fail;rw[show W1.alloc (.cells #[ad nm,ak ab 0 0,ad ⟨#[]⟩] 119)=W2 by rw[lr.out,Rv.out],show W1.heap.size=D+1 by rw[Rv.out];exact dC.out];clear x0 Rv lr dC kO HV W1;have a0:W2.drew.cell? ⟨D+1,0,ab⟩=U (ad nm):=y0;go_region_held3(fun w'=>w'.cell? ⟨D+1,0,ab⟩=U (ad nm))(first|(with_reducible exact a0)|(with_reducible exact s0)|go_keep)((go_at_call 57;refine(amP W2.drew).mono ?_;rintro e Y⟨rfl,ox,hY⟩;have s0:=ao hY a0;have HCR:=fv W2.heap.size Y ox;have xQ:=aa (show aD W2.heap.size W2 Y from ax (aS _ _).drew hY);clear ox hY));have LU:=aa ((xQ.out.block _ (bM.1 Tu.out).1).trans Tu.out);have jh:=aa (ax ab6.out xQ.out);have b_:=ao xQ.out y0;have b1:=ao xQ.out y1;have b2:=ao xQ.out y2;have P5:=aa ((xQ.out.block _ (bM.1 HY.out).1).trans HY.out);have kx:=aa (fz.out.au xQ.out);have Oh:=aa (Di.out.au xQ.out);have hwB:w.heap.size<D:=by rw[E2.out];exact cP
 clear HCR xQ fv y0 y1 y2 HY fz Di ab6 Tu a0 s0 cP cY E2 hl;have afc:∀(X:ac)(tmps:Array ag),X.heap[w.heap.size]?=U (.cells (eB ⟨#[]⟩ (ak ab 0 0) ⟨#[]⟩) 119 (0,0))->aD w.heap.size w X->iN bp=ab->True:=fun _ _ _ _ _=>trivial;clear afc;cases Av:lP c with
  |none=>as_aux_lemma=>have F7:=aa (show iN bp=ab by rw[hr.out];unfold nQ;rw[Av]);have L:=LU.out;go_wp2_with(refine bK J 119 _ _ J w.heap.size (eB ⟨#[]⟩ (ak ab 0 0) ⟨#[]⟩) J J 119 _ L Ec J (by simp[eB,fG]) ?_);exact ba (Iz J _ _ w.heap.size (eB ⟨#[]⟩ (ak ab 0 0) ⟨#[]⟩) _ J J J (aV _ _ _ _ _ _ L)) J ⟨Cn.mQ F7.out _ _ _ _ _ _ _,below_setRow jh.out (aA _) _⟩
  |some k=>
   have kI:qF 1 c=k:=by
    unfold qF;rw[Av];show(if c=kf then(1:Int)else k)=k;split;.rename_i h;rw[h]at Av;cases Av;rfl
    .rfl
   rw[kI];by_cases z:r.length<k
   .as_aux_lemma=>
     have F7:=aa (show iN bp=ab by rw[hr.out];unfold nQ;rw[Av];exact if_pos z);have L:=LU.out;have n4:(n:Int)<=k:=by omega
     clear kI;go_wp2_with(refine bK J 119 _ _ J w.heap.size (eB ⟨#[]⟩ (ak ab 0 0) ⟨#[]⟩) J J 119 _ L Ec J (by simp[eB,fG]) ?_);exact ba (Iz J _ _ w.heap.size (eB ⟨#[]⟩ (ak ab 0 0) ⟨#[]⟩) _ J J J (aV _ _ _ _ _ _ L)) J ⟨Cn.mQ F7.out _ _ _ _ _ _ _,below_setRow jh.out (aA _) _⟩
   .have n4:¬(n:Int)<=k:=by omega
    have Gj:k<=6:=by rcases Js Av with⟨_,rfl⟩|⟨_,rfl⟩|⟨_,rfl⟩|⟨_,rfl⟩|⟨_,rfl⟩|⟨_,rfl⟩|⟨_,rfl⟩|⟨_,rfl⟩|⟨_,rfl⟩<;>omega
    have p7:=aa (show iN bp=ta c r k by rw[hr.out];unfold nQ;rw[Av];exact if_neg z);have c9:=aoc D 0 n n 1 (1+k) 1 (1+(k:Int)) J (by omega) (by omega) (by omega);have yK:=ajO 22 9 underlying22 sizeOf9 D n n (1+k) (1+(k:Int)) (by omega) (by omega) (aA _);have HT:=aa (show hq (U ⟨D,if n=1 then 0 else 0+1,ab⟩) (r.take k) Y from⟨fun h0=>by
     obtain⟨b,off,hb,jS,H⟩:=kx.out.ez (by rw[<-HN.out];omega);cases hb;rw[nJ]at h0;refine⟨D,1,by rw[if_neg (by omega)],jS,fun i x hi=>?_⟩;have Eq:i<k:=by have:=(pb.1 hi).1;rw[nJ]at this;omega
     rw[List.getElem?_take_of_lt Eq]at hi;rw[show 1+i=0+(i+1)by omega];exact H (i+1) x (by rw[qz.out];exact hi)⟩);have HD:=aa (show∀X:ac,X.heap[D]?=Y.heap[D]?->Y.heap.size<=X.heap.size->hq (U ⟨D,if n=1+k then 0 else 1+k,ab⟩) (r.drop k) X from fun X hX Ko=>⟨fun h0=>by obtain⟨b,off,hb,jS,H⟩:=kx.out.ez (by rw[<-HN.out];omega);cases hb;rw[pd]at h0;refine⟨D,1+k,by rw[if_neg (by omega)],by omega,fun i x hi=>?_⟩;rw[JG]at hi;rw[show 1+k+i=0+(k+i+1)by omega,dt hX];exact H (k+i+1) x (by rw[qz.out];exact hi)⟩);have Oy:∀x∈r,x.length<=400:=fun x hx=>kC.out x (by rw[qz.out];exact vA _ hx);obtain⟨o1,gC⟩:=af (if n=1 then 0 else 0+1);obtain⟨s_,dA⟩:=af (if n=1+k then 0 else 1+k);rw[<-gC]at c9 HT;rw[<-dA]at yK HD;rw[show 1+k-1=k by omega]at c9;have nS:=fun cap=>amL (r.take k) (fun x hx=>bL (Oy x (List.mem_of_mem_take hx)) (by omega)) (by rw[nJ];omega) (U ⟨D,o1,ab⟩) cap Y HT.out Oh.out;rw[show(r.take k).length=k by rw[nJ];omega]at nS;have In:=fun X hX Ko cap=>aiG c (r.drop k) (fun x hx=>Oy x (List.mem_of_mem_drop hx)) (U ⟨D,s_,ab⟩) cap X (HD.out X hX Ko);rw[<-kt.out,show(r.drop k).length=n-(1+k)by rw[pd];omega]at In;clear kI gC dA HT HD Oy kC qz kx hr Av HN z;go_wp2_with fail;refine(nS _).mono ?_;rintro e X⟨⟨g,rfl,hU⟩,hX⟩;have bH:D+1<Y.heap.size:=(bM.1 P5.out).1;have b1':=ao hX b1;have Ci:=(hX.block _ bH).trans P5.out;have LR:=(hX.block _ (by omega)).trans LU.out;have f1:X.frozen? ⟨D+1,1,ab⟩=false:=cy _ _ 1 _ _ Ci;have jA:=aa (ax jh.out hX);have HEX:=aa (Oh.out.au hX);have HXS:=aa hX.size;have p4:=aa (hX.block D (by omega));have HU:=aa hU;clear hU hX nS b1 P5 LU jh Oh;cases gT:jx (r.take k)with
     |none=>as_aux_lemma=>have F7:=aa (show iN bp=ab by rw[p7.out];unfold ta;rw[gT]);have L:(X.setCell ⟨D+1,1,ab⟩ (ak ab 0 0)).heap[w.heap.size]?=U (.cells (eB ⟨#[]⟩ (ak ab 0 0) ⟨#[]⟩) 119 (0,0)):=(mV _ _ _ _ (show w.heap.size≠D+1 by omega)).trans LR;have lZ:=aa (b4.below jA.out (show w.heap.size<=D+1 by omega) jA.out.size (b4.set (D+1) 1 X (ak ab 0 0)));clear LR Ci;unfold J9;go_wp2_with(refine bK J 119 _ _ J w.heap.size (eB ⟨#[]⟩ (ak ab 0 0) ⟨#[]⟩) J J 119 _ L Ec J (by simp[eB,fG]) ?_);exact ba (Iz J _ _ w.heap.size (eB ⟨#[]⟩ (ak ab 0 0) ⟨#[]⟩) _ J J J (aV _ _ _ _ _ _ L)) J ⟨Cn.mQ F7.out _ _ _ _ _ _ _,below_setRow lZ.out (aA _) _⟩
     |some Q=>
      obtain⟨hU,hg⟩:=HU.out Q gT;have jb:Q.length=k:=by rw[(KF gT).1,nJ];omega
      have HV:=aa (show J9 g (U Q)=az #[ak (U ⟨g,0,ab⟩) k k,aH true]by show az #[ak (U ⟨g,0,ab⟩) Q.length Q.length,aH true]=_;rw[jb]);rw[HV.out];obtain⟨X1,c5⟩:=af (X.setCell ⟨D+1,1,ab⟩ (ak (U ⟨g,0,ab⟩) k k));have MR:∀j,j≠D+1->X1.heap[j]?=X.heap[j]?:=fun j hj=>by rw[c5];exact mV _ _ _ _ hj
      have PD:X1.heap.size=X.heap.size:=by rw[c5];simp[World.setCell]
      have eO:X1.heap[D+1]?=U (.cells (eB nm (ak (U ⟨g,0,ab⟩) k k) ⟨#[]⟩) 119 (0,0)):=by rw[c5,cJ _ _ 1 _ _ _ _ Ci];exact aV _ _ _ _ _ _ Ci
      have xM:=(MR w.heap.size (by omega)).trans LR;have dw:=aa (show aD w.heap.size w X1 by rw[c5];exact b4.below jA.out (show w.heap.size<=D+1 by omega) jA.out.size (b4.set (D+1) 1 X _));have iJ:=aa (hU.heap (MR g (by omega)));have d0:X1.cell? ⟨D+1,0,ab⟩=U (ad nm):=by rw[aT _ _ 0 _ _ _ eO];rfl
      have Tg:=In X1.drew ((MR D (by omega)).trans p4.out) (show Y.heap.size<=X1.heap.size by rw[PD];exact HXS.out);have hwk:R.wrap (1+(k:Int))=1+k:=by rw[jP];omega
      have hg2:D+1<g:=by omega
      have jY:=aa c5;have aiy:=aa (show g<X1.heap.size by rw[PD];exact hU.lt);clear LR Ci hU c5 MR HEX jA p4 HV In HU;obtain⟨bd,hR⟩:=af (lY c (r.drop k));rw[<-hR]at Tg;have ni:=aa (show iN bp=bd.map fun b=>(c,Q,b)by rw[p7.out];unfold ta;rw[gT,hR]);obtain⟨rs,tI⟩:=af (bs (bd.getD []));obtain⟨zo,Eo⟩:=af bd.isSome;rw[<-tI,<-Eo]at Tg;have oq:=aa (And.intro tI Eo);have Bo:=aa jb;clear hR tI Eo gT p7 c9 PD hg jb;go_wp2_with fail;rw[<-jY.out];clear jY;have a0:X1.drew.cell? ⟨D+1,0,ab⟩=U (ad nm):=d0;go_region_held3(fun w'=>w'.cell? ⟨D+1,0,ab⟩=U (ad nm))(first|(with_reducible exact a0)|(with_reducible exact s0)|(with_reducible exact t0)|go_keep)((go_at_call 59;refine(Tg _).mono ?_;rintro e X2⟨rfl,tH⟩;have eI:=(tH.block _ (bM.1 eO).1).trans eO;have s0:X2.cell? ⟨D+1,0,ab⟩=U (ad nm):=ao tH a0;have s2:X2.cell? ⟨D+1,2,ab⟩=U (ad ⟨#[]⟩):=aT _ _ 2 _ _ _ eI;have f2:X2.frozen? ⟨D+1,2,ab⟩=false:=cy _ _ 2 _ _ eI;have PZ:=anR eI rs;have t0:(X2.setCell ⟨D+1,2,ab⟩ (ad rs)).cell? ⟨D+1,0,ab⟩=U (ad nm):=aT _ _ 0 _ _ _ PZ;have gv:=aa tH;clear tH));have Q6:=aiy.out;have qg:=(gv.out.block w.heap.size (show w.heap.size<X1.heap.size by omega)).trans (show X1.drew.heap[w.heap.size]?=_ from xM);obtain⟨X3,aqv⟩:=af (X2.setCell ⟨D+1,2,ab⟩ (ad rs));rw[<-aqv]at PZ⊢;have Si:∀j,j≠D+1->X3.heap[j]?=X2.heap[j]?:=fun j hj=>by rw[aqv];exact mV _ _ _ _ hj
      have Xa:=(Si w.heap.size (by omega)).trans qg;have be:=aa ((show p8 g Q.length Q X1.drew from iJ.out).au gv.out|>.heap (Si g (by omega)));have l4:=aa (show aD w.heap.size w X3 by rw[aqv];exact b4.below (ax (show aD w.heap.size w X1.drew from dw.out.drew) gv.out) (show w.heap.size<=D+1 by omega) (bL dw.out.size gv.out.size) (b4.set (D+1) 2 X2 _));clear aqv Si eO eI xM qg dw iJ gv t0 s0 s2 f2 a0 d0;go_wp2_with(first|(refine vC J 119 _ J (D+1) J 119 (eB nm (ak (U ⟨g,0,ab⟩) k k) rs) (0,0) _ PZ underlying119 J Ec ?_)|(refine bK J 119 _ _ J w.heap.size (eB nm (ak (U ⟨g,0,ab⟩) k k) rs) J J 119 _ Xa Ec J (by simp[eB,fG]) ?_));refine ba (Iz J _ _ w.heap.size (eB nm (ak (U ⟨g,0,ab⟩) k k) rs) _ J J J (aV _ _ _ _ _ _ Xa)) J ⟨⟨nm,U ⟨g,0,ab⟩,k,k,rs,by rw[ni.out,oq.out.2];cases bd<;>rfl,fun x hx=>?_⟩,below_setRow l4.out (aA _) _⟩;rw[ni.out]at hx;obtain⟨b,hb,rfl⟩:=qh.1 hx;refine⟨kt.out,by rw[oq.out.1,hb];rfl,g,J,Bo.out.symm,Bo.out.symm,by omega,?_⟩;rw[<-Bo.out];exact be.out.heap (ij X3 w.heap.size g _ (by omega))
theorem D6(n:Nat)(u:n<18446744073709551616)(w:ac):ap ae 28 #[I ah n] w fun e w'=>e=aq (ad (bs (aQ n)))/\aD w.heap.size w w':=JE n u w
theorem AM{n:Nat}(h:n<18446744073709551616):(bs (aQ n)).size<=20:=by rw[ct];exact nDigits_le20 n h
theorem OH(f:Nat)(M:f<=100)(w:ac):ap ae 18 #[I R f] w fun e w'=>e=aq (ad (bs (nH f)))/\aD w.heap.size w w':=by have HI:=D6 f (by omega) w;have HQ:=aa (show⟨#[101,114,114,111,114,32]⟩++bs (aQ f)=bs (nH f)from b7 [101,114,114,111,114,32] _);have F:=AM (show f<18446744073709551616 by omega);obtain⟨B,N⟩:=af (bs (aQ f));rw[<-N]at HI HQ F;clear N;go_enter func18,ntmps18;go_wp2_with(go_at_call 28;refine HI.mono ?_;rintro e w'⟨rfl,hb⟩);go_ret;exact⟨by rw[<-HQ.out];rfl,hb⟩
theorem Mw(f:Nat)(M:f<=100)(w:ac):ap ae 21 #[I R f] w fun e w'=>e=aq (ad (bs (iZ f)))/\aD w.heap.size w w':=by
 have HI:=OH f M w;by_cases h:f=0;.subst h;clear HI;go_enter func21,ntmps21;go_wp2;go_ret;exact⟨J,aS _ _⟩
 .have q:(0:Int)<f:=by omega
  rw[show iZ f=nH f by unfold iZ;rw[if_neg h]];obtain⟨B,N⟩:=af (bs (nH f));rw[<-N]at HI⊢;clear N h;go_enter func21,ntmps21;go_wp2_with(go_at_call 18;refine HI.mono ?_;rintro e w'⟨rfl,hb⟩);go_ret;exact⟨J,hb⟩
def zX(aI:Nat)(x:Nat->Nat)(i:Nat):Array ag:=bX ⟨3221225534,aI,if 0<i then x 0 else 0,if 1<i then x 1 else 0,if 2<i then x 2 else 0,if 3<i then x 3 else 0⟩
theorem anA(aI:Nat)(x:Nat->Nat)(i:Nat)(h:i<4):(zX aI x i).setIfInBounds (2+i) (I ah (x i:Nat))=zX aI x (i+1):=by rcases(by omega:i=0\/i=1\/i=2\/i=3)with rfl|rfl|rfl|rfl<;>rfl
theorem ak7(aI:Nat)(x:Nat->Nat)(i:Nat)(h:i<4):∃v,(zX aI x i)[2+i]?=U v:=by rcases(by omega:i=0\/i=1\/i=2\/i=3)with rfl|rfl|rfl|rfl<;>exact⟨_,J⟩
set_option maxHeartbeats 2000000 in set_option maxRecDepth 20000 in theorem T9(x0:Nat)(x:Nat->Nat)(h0:x0<18446744073709551616)(hx:∀i,x i<18446744073709551616)(g off cap:Nat)(w:ac)(c0:w.cell? ⟨g,off,ab⟩=U (I ah x0))(xC:∀i,i<4->w.cell? ⟨g,off+(1+i),ab⟩=U (I ah (x i:Nat))):ap ae 26 #[ak (U ⟨g,off,ab⟩) 5 cap] w fun e w'=>e=aq (cR ⟨3221225534,min x0 4294967295,x 0,x 1,x 2,x 3⟩)/\aD w.heap.size w w':=by
 obtain⟨aI,hz⟩:=af (min x0 4294967295);rw[<-hz];have dD:min (x0:Int) 4294967295=aI:=by omega
 have dz:aI<4294967296:=by omega
 have d0:=ao (ai w (.cells #[I aj 0,I aj 0,I ah 0,I ah 0,I ah 0,I ah 0] 68)) c0;obtain⟨W2,ex,k9,fT,hy⟩:=qZ w #[I aj 0,I aj 0,I ah 0,I ah 0,I ah 0,I ah 0] #[I aj 3221225534,I aj aI,I ah 0,I ah 0,I ah 0,I ah 0] 68 68;have c9:(w.alloc (.cells #[I aj 0,I aj 0,I ah 0,I ah 0,I ah 0,I ah 0] 68)).heap.size=w.heap.size+1:=bA ..;have xM:=aa (show W2.heap[w.heap.size+1]?=U (.cells (zX aI x 0) 68 (0,0))by rw[ex,<-c9];exact a7 _ _);have o5:=aa (show W2.heap[w.heap.size]?=U (.cells #[I aj 0,I aj 0,I ah 0,I ah 0,I ah 0,I ah 0] 68 (0,0))by rw[ex];exact(AU _ _ (h:=by rw[c9];omega)).trans (a7 _ _));have Ci:=aa xC;have df:=aa k9;have lr:=aa ex;have HX:=aa hx;have qd:=block_lt_of_cell c0;have L':=aa qd;clear hz fT hy ex c9 xC k9 hx qd c0;go_enter func26,ntmps26;go_wp2_with fail;rw[<-lr.out];clear lr d0;obtain⟨r,L⟩:=af (w.heap.size+1);rw[<-L]at xM⊢;have HR:=aa L;clear L;go_loopw[4](fun aL wr=>∃i:Nat,i<=4/\aL=I R i/\Hid (wr.heap[r]?=U (.cells (zX aI x i) 68 (0,0)))/\Hid (aD r W2 wr))(fun aL _=>4-(intOf aL).toNat);case atStart=>exact⟨0,by omega,J,xM,aa (aS _ _)⟩
 case round=>
  obtain⟨i,hi,rfl,Fk,M9⟩:=hrel;clear xM;by_cases am:i<4
  .as_aux_lemma=>
    have hl:(i:Int)<4:=by omega
    have jM:(0:Int)<=i:=by omega
    have m7:(1:Int)+i<5:=by omega
    have hlw:R.wrap (1+(i:Int))=1+i:=by rw[jP];omega
    have H:wr.cell? ⟨g,off+(1+i),ab⟩=U (I ah (x i:Nat)):=(dt (M9.out.block g (by rw[HR.out];have:=L'.out;omega)) _).trans (ao df.out (Ci.out i am));obtain⟨v,hv⟩:=ak7 aI x i am;have F:wr.cell? ⟨r,2+i,ab⟩=U v:=by rw[aT _ _ _ _ _ _ Fk.out];exact hv
    have M:wr.frozen? ⟨r,2+i,ab⟩=false:=cy _ _ _ _ _ Fk.out;have tb:=HX.out i;have HN:=aa (show(wr.setCell ⟨r,2+i,ab⟩ (I ah (x i:Nat))).heap[r]?=U (.cells (zX aI x (i+1)) 68 (0,0))by rw[cJ _ _ (2+i) _ _ _ _ Fk.out,anA aI x i am];exact aV _ _ _ _ _ _ Fk.out);have l4:=aa (show aD r W2 (wr.setCell ⟨r,2+i,ab⟩ (I ah (x i:Nat)))from b4.below M9.out (aA _) (Nat.le_of_lt (bM.1 Fk.out).1) (b4.set r _ _ _));obtain⟨apS,hxi⟩:=af (x i);rw[<-hxi]at H HN l4 tb;clear hxi hv;go_wp2;go_round;case rel=>exact⟨i+1,by omega,by go_num,HN,l4⟩
    case measure=>simp[intOf];omega
  .as_aux_lemma=>
    have hl:¬(i:Int)<4:=by omega
    obtain rfl:i=4:=by omega
    have zu:=Fk.out;have sN:=(M9.out.block w.heap.size (by rw[HR.out];omega)).trans o5.out;have A8:=aa (show aD w.heap.size w wr from df.out.trans (M9.out.mono (by rw[HR.out];omega)));obtain⟨br,hA⟩:=af (zX aI x 4);have lF:br.size=6:=by rw[hA];rfl
    have Tb:br.all (·.oneCell')=true:=by rw[hA];simp[zX,bX,fG]
    rw[<-hA]at zu;have HA:=aa hA;clear hA;go_wp2_with(first|(refine vC J 68 _ J r J 68 br (0,0) _ zu underlying68 J (by rw[lF];exact Ev) ?_)|(refine bK J 68 _ _ J w.heap.size br J J 68 _ sN (by rw[lF];exact Ev) (by rw[lF];rfl) Tb ?_));exact ba (kM J _ _ w.heap.size 68 br (0,0) _ J (aV _ _ _ _ _ _ sN) underlying68 J (by rw[lF];exact Ev)) J ⟨congrArg (fun x=>aq (aw x)) HA.out,below_setRow A8.out (aA _) _⟩
end Go.Proofs.YtefdakbahplnbaaGreatDoor
namespace Go.Proofs.YtefdakbahplnbaaGreatDoor
open Go.RowKit Go.Sort
set_option maxHeartbeats 4000000 in set_option maxRecDepth 20000 in theorem aes(e:EN)(bh:Dq e)(w:ac):ap ae 32 #[aw (gE e)] w fun x w'=>x=aq (ad (bs (gV e)))/\aD w.heap.size w w':=by
 obtain⟨V,hV,hB,cP,hx⟩:=eN w (gE e) 103;have k0:V.cell? ⟨w.heap.size,0,ab⟩=U (I R (e.aF:Nat)):=hx 0;have k1:V.cell? ⟨w.heap.size,1,ab⟩=U (I R (e.cg:Nat)):=hx 1;have k3:V.cell? ⟨w.heap.size,3,ab⟩=U (I aj e.call.nr):=hx 3;have AL:V.cell? ⟨w.heap.size,20,ab⟩=U (I R e.aU):=hx 20;have HX:=aa hx;have CC:=aa (acm e);have vx:=aa (aaK e);have lF:=R9 e;have q:=bh.cg;have h2:=bh.kl.nr;have h3:=bh.aU;have D_:=aa bh.kl;have ID:=aa bh.vs;have m8:=aa bh.nr;have qA:=aa bh.aB;have ff:=aa (fun(h2:e.aF≠2)(h3:e.aF≠3)=>IE e.call bh.kl e.aG bh.vs (bh.aB h2 h3));have d1:=AM (show e.cg<18446744073709551616 by omega);have d2:=AM (show e.call.nr<18446744073709551616 by omega);have HI:=fun(n:Nat)(h:n<18446744073709551616)X=>D6 n h X;obtain⟨bd,hR⟩:=af (gV e);rw[<-hR];have bc:=aa (show bs bd=bs (aQ e.cg)++bs [32]++bs (aQ e.call.nr)++bs [32]++bs (if e.aF=2 then[114,101,102,117,115,101,100,32]++aQ e.aU.toNat else if e.aF=3 then[107,105,108,108,101,100]else[100,111,110,101]++gY e.call e.aG 4)by rw[hR,b7,b7,b7,b7];rfl);obtain⟨br,hA⟩:=af (gE e);rw[<-hA]at hV HX CC vx lF⊢;obtain⟨kd,fg⟩:=af e.aF;obtain⟨th,sn⟩:=af e.cg;obtain⟨ut,F5⟩:∃n:Nat,e.aU=n:=⟨e.aU.toNat,by omega⟩;obtain⟨v,hv⟩:=af e.aG;obtain⟨c,H⟩:=af e.call;rw[F5]at AL h3 bc;rw[d_]at bc;rw[<-fg]at k0 bc ff m8 qA;rw[<-sn]at k1 q d1 bc;rw[<-hv]at bc ff vx ID qA;rw[<-H]at k3 h2 d2 bc ff CC D_ m8;obtain⟨nr,b0⟩:=af c.nr;rw[<-b0]at k3 h2 d2 bc m8;have C':=aa b0;obtain⟨D1,Gt⟩:=af (bs (aQ th));obtain⟨D2,FZ⟩:=af (bs (aQ nr));have fd:=HI th (by omega);have CE:=HI nr (by omega);rw[<-Gt]at fd d1 bc;rw[<-FZ]at CE d2 bc;have S:=aa hB;clear hR hA fg sn F5 hv H b0 Gt FZ bh hx hB;have g1:=aJ k1;have g3:=aJ k3;have mz:∀d os,ap ae 28 #[I ah th] (grow (redrawn V d) os) fun e bF=>e=aq (ad D1)/\∃p:eh,bF=grow (redrawn V p.d) p.os:=fun d os=>fU (fd _);have pR:∀d os,ap ae 28 #[I ah nr] (grow (redrawn V d) os) fun e bF=>e=aq (ad D2)/\∃p:eh,bF=grow (redrawn V p.d) p.os:=fun d os=>fU (CE _);go_enter func32,ntmps32;go_wp2_with fail;rw[<-hV];clear hV fd CE;refine fI (by kernel_rfl) (by kernel_rfl) ?_;repeat(go_big_quiet_step(first|(go_at_call 28;with_reducible exact mz _ _)|(go_at_call 28;with_reducible exact pR _ _)))
 refine e6 ?_;intro _ bT;obtain⟨⟨dq,bJ⟩,bY⟩:=bT;subst bY;have bb:=cN V dq bJ;obtain⟨W1,dU⟩:=af (grow (redrawn V dq) bJ);rw[<-dU]at bb⊢;replace k0:=ao bb k0;replace k3:=ao bb k3;replace AL:=ao bb AL;have H1:=aa (fun(j:Nat)(ay:ag)(h:br[j]?=U ay)=>ao bb ((HX.out j).trans h));have dw:=aa (ax S.out bb);clear dU bb g1 g3 mz pR k1 HX;have hT:(D1++⟨#[32]⟩++D2).size<=100:=by simp only[ml];show D1.size+1+D2.size<=100;omega
 replace bc:=bc.out;rw[show bs [32]=⟨#[32]⟩from J]at bc;replace bc:=aa bc;obtain⟨fl,ce⟩:=af w.heap.size;rw[<-ce]at k0 k3 AL H1⊢;clear ce;by_cases c2:kd=2;.as_aux_lemma=>subst c2;have d3:=AM (show ut<18446744073709551616 by omega);have Ia:=HI ut (by omega);have HQ:=aa (show D1++⟨#[32]⟩++D2++⟨#[32,114,101,102,117,115,101,100,32]⟩++bs (aQ ut)=bs bd by rw[bc.out,if_pos J,<-b7];simp only[xj];rfl);obtain⟨Vv,jy⟩:=af (bs (aQ ut));rw[<-jy]at Ia d3 HQ;clear jy HI bc ff;go_wp2_with(go_at_call 28;refine(Ia _).mono ?_;rintro x X⟨rfl,hX⟩;have HX:=aa (ax dw.out hX);clear hX);go_ret;exact⟨by rw[<-HQ.out];rfl,HX.out⟩
 have vd:¬(kd:Int)=2:=by omega
 by_cases c3:kd=3;.as_aux_lemma=>subst c3;have HQ:=aa (show D1++⟨#[32]⟩++D2++⟨#[32,107,105,108,108,101,100]⟩=bs bd by rw[bc.out,if_neg (by omega),if_pos J];simp only[xj];rfl);clear HI bc ff;go_wp2;go_ret;exact⟨by rw[<-HQ.out];rfl,dw.out⟩
 have c3':¬(kd:Int)=3:=by omega
 have b2:((kd:Int)==2)=false:=by rw[beq_eq_false_iff_ne];omega
 have b3:((kd:Int)==3)=false:=by rw[beq_eq_false_iff_ne];omega
 have h8:=m8.out c2 c3;have l6:=ff.out c2 c3;have jR:=qA.out c2 c3;have Cc:=aa l6;have anr:=aa jR;have HQ:=aa (show D1++⟨#[32]⟩++D2++⟨#[32,100,111,110,101]⟩++bs (gY c v 4)=bs bd by rw[bc.out,if_neg c2,if_neg c3,<-b7];simp only[xj];rfl);have D5:(D1++⟨#[32]⟩++D2++⟨#[32,100,111,110,101]⟩).size<=200:=by rw[ml];show _+5<=200;omega
 clear l6 jR ff qA m8 bc;go_wp2_with fail;obtain⟨T,xH⟩:=af (D1++⟨#[32]⟩++D2++⟨#[32,100,111,110,101]⟩);rw[<-xH]at HQ D5⊢;clear xH;go_loopw[3,4](fun eG aL wr=>∃i:Nat,i<=4/\aL=I R i/\eG=ad (T++bs (gY c v i))/\Hid (aD W1.heap.size W1 wr))(fun _ aL _=>4-(intOf aL).toNat);case atStart=>exact⟨0,by omega,J,by show _=ad (T++bs []);rw[show bs []=fH from J,api],aa (aS _ _)⟩
 case round=>
  obtain⟨i,hi,rfl,rfl,kA⟩:=hrel;by_cases am:i<4
  .have hl:(i:Int)<4:=by omega
   have jM:(0:Int)<=i:=by omega
   have HK:=wC nr i (by omega) am;have al5:min (nr:Int) 100=nr:=by omega
   have hb:=ai wr (.cells #[I .u8 34] 5);have fj:wr.cell? ⟨fl,4+i,ab⟩=U (I ah (fk c i:Nat)):=ao kA.out (H1.out _ _ (CC.out i am));have iX:wr.cell? ⟨fl,8+i*3,ab⟩=U (ad (v.eu i).bf):=ao kA.out (H1.out _ _ (vx.out i am).1);have wQ:wr.cell? ⟨fl,8+i*3+1,ab⟩=U (I aj (v.eu i).ip):=ao kA.out (H1.out _ _ (vx.out i am).2.1);have yT:wr.cell? ⟨fl,8+i*3+2,ab⟩=U (I R (v.eu i).aB):=ao kA.out (H1.out _ _ (vx.out i am).2.2);replace fj:=ao hb fj;replace iX:=ao hb iX;replace wQ:=ao hb wQ;replace yT:=ao hb yT;have c3n:=ao hb (ao kA.out k3);have j0:=WR (wr.alloc (.cells #[I .u8 34] 5)) 34 (by omega) wr.heap.size (aT _ _ 0 _ _ _ (a7 wr _));have nX:=aa (ax kA.out hb);have HS:=aa (show gY c v (i+1)=gY c v i++uT c v i from J);have hTa:(T++bs (gY c v i)).size<=13000:=by rw[ml,ct];have:=Cc.out i;omega
   have Ax:=Fe D_.out i;have Hc:=ID.out.eu i;have jR:=anr.out i;obtain⟨wP,ub⟩:=af (fk c i);rw[<-ub]at fj Ax;obtain⟨vi,CH⟩:=af (v.eu i);rw[<-CH]at iX wQ yT Hc jR;obtain⟨p_,ip,aB⟩:=vi;obtain⟨oD,xv,_⟩:=Hc;simp only at iX wQ yT oD xv jR;obtain⟨pt,rfl⟩:∃n:Nat,aB=n:=⟨aB.toNat,by omega⟩;obtain⟨ka,el⟩:=af (a1 nr i);rw[<-el]at HK;have pS:=aa (show uT c v i=if ka=1 then 32::aQ wP else if ka=2 then[32,34]++iH p_.data.toList++[34]else if ka=3 then[32]++aQ ip++[58]++aQ pt else[]by unfold uT;rw[ub,<-C'.out,<-el,<-CH];rfl);obtain⟨TB,tB⟩:=af (T++bs (gY c v i));rw[<-tB]at hTa⊢;have CO:=aa tB;have KC:=aa (show T++bs (gY c v (i+1))=TB++bs (uT c v i)by rw[HS.out,<-b7,tB,xj]);obtain⟨cv,hU⟩:=af (wr.alloc (.cells #[I .u8 34] 5));have HU:=aa hU;have UR:cv.cell? ⟨fl,4+i,ab⟩=U (I ah wP):=by rw[hU];exact fj
   have c8a:cv.cell? ⟨fl,8+i*3,ab⟩=U (ad p_):=by rw[hU];exact iX
   have c9a:cv.cell? ⟨fl,8+i*3+1,ab⟩=U (I aj ip):=by rw[hU];exact wQ
   have akb:cv.cell? ⟨fl,8+i*3+2,ab⟩=U (I R pt):=by rw[hU];exact yT
   rw[<-hU]at nX;clear tB ub CH el hb hU fj iX wQ yT HS;go_wp2_with(go_at_call 47;refine(HK _).mono ?_;rintro x X⟨rfl,hX⟩;rw[hX];clear hX X;refine Hid.out ?_);refine aa ?_;rw[<-HU.out];clear HU j0 c3n;by_cases k1:ka=1
   .as_aux_lemma=>
     have k1i:(ka:Int)=1:=by omega
     have HN:=HI wP Ax cv;have s5:=AM Ax;have oo:=aa (show TB++⟨#[32]⟩++bs (aQ wP)=T++bs (gY c v (i+1))by rw[KC.out,pS.out,if_pos k1,xj];exact congrArg (TB++·) (b7 [32] _));obtain⟨d,hd⟩:=af (bs (aQ wP));rw[<-hd]at HN s5 oo;clear hd HI;go_wp2_with(go_at_call 28;refine HN.mono ?_;rintro e X⟨rfl,hX⟩;have HX:=aa (ax nX.out hX);clear hX);go_round;case rel=>exact⟨i+1,by omega,by go_num,by rw[<-oo.out],HX⟩
     case measure=>simp[intOf];omega
   .have k1':¬(ka:Int)=1:=by omega
    rw[if_neg k1]at pS;by_cases k2:ka=2
    .as_aux_lemma=>
      have k2i:(ka:Int)=2:=by omega
      have HN:=ani p_ oD cv;have s5:(bs (iH p_.data.toList)).size<=2000:=by rw[ct,Gf,<-Lib.size_eq];omega
      have oo:=aa (show TB++⟨#[32]⟩++⟨#[34]⟩++bs (iH p_.data.toList)++⟨#[34]⟩=T++bs (gY c v (i+1))by rw[KC.out,pS.out,if_pos k2,<-b7,<-b7];simp only[xj];rfl);obtain⟨d,hd⟩:=af (bs (iH p_.data.toList));rw[<-hd]at HN s5 oo;clear hd HI;go_wp2_with(go_at_call 48;refine HN.mono ?_;rintro e X⟨rfl,hX⟩;have HX:=aa (ax nX.out hX);clear hX);go_round;case rel=>exact⟨i+1,by omega,by go_num,by rw[<-oo.out],HX⟩
      case measure=>simp[intOf];omega
    .have k2':¬(ka:Int)=2:=by omega
     rw[if_neg k2]at pS;by_cases k3:ka=3
     .as_aux_lemma=>
       have k3i:(ka:Int)=3:=by omega
       have hp2:pt<=65535:=by omega
       have s5:=AM (show ip<18446744073709551616 by omega);have Rk:=AM (show pt<18446744073709551616 by omega);have HN:=HI ip (by omega);have zI:=HI pt (by omega);have oo:=aa (show TB++⟨#[32]⟩++bs (aQ ip)++⟨#[58]⟩++bs (aQ pt)=T++bs (gY c v (i+1))by rw[KC.out,pS.out,if_pos k3,<-b7,<-b7,<-b7];simp only[xj];rfl);obtain⟨d,hd⟩:=af (bs (aQ ip));obtain⟨f,M⟩:=af (bs (aQ pt));rw[<-hd]at HN s5 oo;rw[<-M]at zI Rk oo;clear hd M HI;have g1:=aJ c9a;have g2:=aJ akb;have pR:∀d' os,ap ae 28 #[I ah ip] (grow (redrawn cv d') os) fun e bF=>e=aq (ad d)/\∃p:eh,bF=grow (redrawn cv p.d) p.os:=fun d' os=>fU (HN _);have mz:∀d' os,ap ae 28 #[I ah pt] (grow (redrawn cv d') os) fun e bF=>e=aq (ad f)/\∃p:eh,bF=grow (redrawn cv p.d) p.os:=fun d' os=>fU (zI _);clear HN zI;go_wp2_with fail;refine fI (by kernel_rfl) (by kernel_rfl) ?_;repeat(go_big_quiet_step(first|(go_at_call 28;with_reducible exact pR _ _)|(go_at_call 28;with_reducible exact mz _ _)))
       refine e6 ?_;intro _ bT;obtain⟨⟨So,OB⟩,bY⟩:=bT;subst bY;have HX:=aa (ax nX.out (cN cv So OB));go_wp2;go_round;case rel=>exact⟨i+1,by omega,by go_num,by rw[<-oo.out],HX⟩
       case measure=>simp[intOf];omega
     .as_aux_lemma=>
       have k3':¬(ka:Int)=3:=by omega
       rw[if_neg k3]at pS;have oo:=aa (show TB=T++bs (gY c v (i+1))by rw[KC.out,pS.out,show bs []=fH from J,api]);clear HI;go_wp2;go_round;case rel=>exact⟨i+1,by omega,by go_num,by rw[<-oo.out],nX⟩
       case measure=>simp[intOf];omega
  .as_aux_lemma=>
    obtain rfl:i=4:=by omega
    have HX:=aa (ax dw.out kA.out);rw[HQ.out];obtain⟨B,N⟩:=af (bs bd);rw[<-N];have Dk:=aa N;clear N HI;go_wp2;go_ret;exact⟨by rw[<-Dk.out];rfl,HX.out⟩
theorem amB(ws:List W8)(c':∀al∈ws,al.length<=9000)(oa:Option bl)(cap:Nat)(w:ac)(hS:hq oa ws w)(hl:ws.length<=9001):ap ae 42 #[ak oa ws.length cap] w fun e w'=>e=aq (jo (ee ws))/\Below w.heap.size w w':=by
 match ws,c',hS,hl with
  |[],_,_,_=>exact OG [] oa cap w (by simp)
  |[al],_,_,_=>exact OG [al] oa cap w (by simp)
  |[al,aI],_,_,_=>exact OG [al,aI] oa cap w (by simp)
  |a::s::x::r,c',hS,hl=>
   by_cases hA:cz a=true/\bW a<=3
   .by_cases q:s=[38];.subst q;exact ae6 a x r c' oa cap w hS hl hA
    by_cases h2:s=[126];.subst h2;exact ahz a x r c' oa cap w hS hl hA
    by_cases h3:s=[105,110];.subst h3;exact afd a x r c' oa cap w hS hl hA
    exact ajh a s x r c' oa cap w hS hl hA q h2 h3
   .exact amT a s x r c' oa cap w hS hl hA
def Ae(x:W8):Nat->Int|0=>-1|i+1=>if mi.getD i []=x then(i:Int)else Ae x i
theorem aeH(x:W8):Ae x 9=j_ x:=by
 by_cases h:x∈mi;.simp only[mi,List.mem_cons,List.not_mem_nil,or_false]at h;rcases h with rfl|rfl|rfl|rfl|rfl|rfl|rfl|rfl|rfl<;>decide
 .have q:∀i,i<=9->Ae x i=-1:=by
   intro i;induction i with
    |zero=>exact fun _=>J
    |succ i ih=>intro hi;unfold Ae;rw[if_neg,ih (by omega)];intro he;refine h ?_;rw[<-he,List.getD_eq_getElem?_getD,cq (by show i<9;omega)];exact List.getElem_mem _
  rw[q 9 (aA _)];unfold j_;rw[List.findIdx?_eq_none_iff.2 fun al hy=>by simp only[beq_eq_false_iff_ne];intro e;exact h (e▸hy)]
def w9(X:ac)(b off:Nat)(ws:List W8):Prop:=∀i x,ws[i]?=U x->X.cell? ⟨b,off+i,ab⟩=U (ad (bs x))
theorem w9.drop{X:ac}{b off:Nat}{ws:List W8}(h:w9 X b off ws)(k:Nat):w9 X b (off+k) (ws.drop k):=fun i x hi=>by rw[JG]at hi;have:=h (k+i) x hi;rwa[show off+k+i=off+(k+i)by omega]
theorem w9.ajn{X:ac}{b off:Nat}{ws:List W8}(h:w9 X b off ws)(hb:b<X.heap.size):hq (U ⟨b,off,ab⟩) ws X:=⟨fun _=>⟨b,off,J,hb,h⟩⟩
structure ss(w:ac)(r5 b off:Nat)(ws:List W8)(nr:Int)(a:bG)(E:ag)(X:ac):Prop where
 below:Below w.heap.size w X
 ci:X.heap[w.heap.size]?=U (.cells (cD 0 (ak ab 0 0) ⟨0,0⟩) 54 (0,0))
 row:X.heap[r5]?=U (.cells (cD nr E a) 54 (0,0))
 ft:w9 X b off ws
 le:w.heap.size<r5/\b<r5
structure UX(w:ac)(r5 b off:Nat)(ws:List W8)(nr:Int)(cs:List CD)(a:bG)(E:ag)(X:ac):Prop where
 cx:ss w r5 b off ws nr a E X
 cW:X.ownsRow (r5+1) 129 9 E cs.length (gO cs)
theorem ss.heap{w:ac}{r5 b off:Nat}{ws:List W8}{nr:Int}{a:bG}{E:ag}{X Y:ac}(h:ss w r5 b off ws nr a E X)(ho:Y.os=X.os/\Y.tape=X.tape/\Y.output=X.output)(F:X.heap.size<=Y.heap.size)(hb:∀k,k<=r5->Y.heap[k]?=X.heap[k]?):ss w r5 b off ws nr a E Y:=by have hl:=h.le;exact⟨h.below.trans ⟨ho.1,ho.2.1,ho.2.2,F,fun k z=>hb k (by omega)⟩,(hb _ (by omega)).trans h.ci,(hb r5 (aA _)).trans h.row,fun i x hi=>(dt (hb b (by omega)) _).trans (h.ft i x hi),h.le⟩
theorem ss.lt{w:ac}{r5 b off:Nat}{ws:List W8}{nr:Int}{a:bG}{E:ag}{X:ac}(h:ss w r5 b off ws nr a E X):r5<X.heap.size:=(bM.1 h.row).1
theorem UX.au{w:ac}{r5 b off:Nat}{ws:List W8}{nr:Int}{cs:List CD}{a:bG}{E:ag}{X Y:ac}(h:UX w r5 b off ws nr cs a E X)(hb:Below X.heap.size X Y):UX w r5 b off ws nr cs a E Y:=⟨h.cx.heap ⟨hb.os,hb.tape,hb.output⟩ hb.size fun k z=>hb.block k (by have:=h.cx.lt;omega),h.cW.kept (row:=ab) ⟨hb.os,hb.tape,hb.output,hb.size,fun k z _=>hb.block k z⟩ (by
 cases hv:E.ownBlock with
  |none=>exact .inl J
  |some k=>exact .inr (by simp))⟩
theorem ss.grown{w:ac}{r5 b off:Nat}{ws:List W8}{nr:Int}{a:bG}{E:ag}{X Y:ac}{row:Option Nat}(h:ss w r5 b off ws nr a E X)(o:Obj)(hg:(X.alloc o).grownBy Y row)(L:∀k,row=U k->r5+1<=k):ss w r5 b off ws nr a E Y:=by have h4:=h.lt;exact h.heap ⟨hg.os,hg.tape,hg.output⟩ (bL (ai X o).size hg.size) fun k z=>(hg.block k (by rw[bA];omega) (fun e=>by have:=L k e.symm;omega)).trans ((ai X o).block k (by omega))
theorem ss.set{w:ac}{r5 b off:Nat}{ws:List W8}{nr nr':Int}{a a':bG}{E sv':ag}{X:ac}(h:ss w r5 b off ws nr a E X)(j:Nat)(v:ag)(H:(cD nr E a).setIfInBounds j v=cD nr' sv' a'):ss w r5 b off ws nr' a' sv' (X.setCell ⟨r5,j,ab⟩ v):=by have hl:=h.le;rw[cJ _ _ j _ _ _ _ h.row,H];have hb:∀k,k≠r5->(X.setRow r5 (cD nr' sv' a')).heap[k]?=X.heap[k]?:=fun k z=>ij X r5 k _ z;exact⟨h.below.trans ⟨J,J,J,by rw[iz];exact aA _,fun k z=>hb k (by omega)⟩,(hb _ (by omega)).trans h.ci,aV _ _ _ _ _ _ h.row,fun i x hi=>(dt (hb b (by omega)) _).trans (h.ft i x hi),h.le⟩
theorem UX.afX{w:ac}{r5 b off:Nat}{ws:List W8}{nr:Int}{cs:List CD}{a:bG}{E:ag}{X:ac}(h:UX w r5 b off ws nr cs a E X)(nr':Int):UX w r5 b off ws nr' cs a E (X.setCell ⟨r5,0,ab⟩ (I R nr')):=⟨h.cx.set 0 _ J,Dp (r:=r5) h.cW (b4.set r5 0 X _) (by omega)⟩
theorem UX.Zf{w:ac}{r5 b off:Nat}{ws:List W8}{nr:Int}{mZ:List CD}{a:bG}{E sv':ag}{X:ac}(h:ss w r5 b off ws nr a E X)(ho:X.ownsRow (r5+1) 129 9 sv' mZ.length (gO mZ)):UX w r5 b off ws nr mZ a sv' (X.setCell ⟨r5,1,ab⟩ sv'):=⟨h.set 1 _ J,Dp (r:=r5) ho (b4.set r5 1 X _) (by omega)⟩
theorem UX.cell{w:ac}{r5 b off:Nat}{ws:List W8}{nr:Int}{cs:List CD}{a:bG}{E:ag}{X:ac}(h:UX w r5 b off ws nr cs a E X)(j:Nat):X.cell? ⟨r5,j,ab⟩=(cD nr E a)[j]?:=aT _ _ j _ _ _ h.cx.row
theorem UX.b5{w:ac}{r5 b off:Nat}{ws:List W8}{nr:Int}{cs:List CD}{a:bG}{E:ag}{X:ac}(h:UX w r5 b off ws nr cs a E X)(j:Nat):X.frozen? ⟨r5,j,ab⟩=false:=cy _ _ j _ _ h.cx.row
theorem UX.j'{w:ac}{r5 b off:Nat}{ws:List W8}{nr:Int}{cs:List CD}{a:bG}{E:ag}{X:ac}(h:UX w r5 b off ws nr cs a E X)(v:Array ag):Below w.heap.size w (X.setRow w.heap.size v)/\(X.setRow w.heap.size v).ownsRow (r5+1) 129 9 E cs.length (gO cs):=by have hl:=h.cx.le;have F:=h.cx.below.size;have bb:b4 w.heap.size X (X.setRow w.heap.size v):=⟨J,J,J,by rw[iz];exact aA _,fun k _ u=>ij X w.heap.size k _ u⟩;exact⟨bb.below h.cx.below (aA _) F,Dp h.cW bb (by omega)⟩
def amj(o:Option RL)(e:Ending)(w w':ac):Prop:=match o with|U r=>∃oa cap,e=aq (az #[aw (cD r.nr (ak oa r.bq.length cap) r.dO),aH true])/\r.bq.length<=cap/\cap<=maxLen/\jV oa r.bq w'/\∀b off,oa=U ⟨b,off,ab⟩->w.heap.size<=b/\b<w'.heap.size|ab=>∃(nr:Int)(a:bG)(oa:Option bl)(n cap:Nat),n<=cap/\cap<=maxLen/\e=aq (az #[aw (cD nr (ak oa n cap) a),aH false])
theorem xu{fn:Func}{p ay:Tmp}(h:fn.results=#[.cell p 54, .tmp ay])(tmps:Array ag)(w:ac)(g:Nat)(cs:Array ag)(v:ag)(F:cs.size=4)(hp:tmps.getD p undef=av (U ⟨g,0,ab⟩))(hv:tmps.getD ay undef=v)(hg:w.heap[g]?=U (.cells cs 54 (0,0))):(results fn tmps).run ae w= .ok (az #[aw cs,v]) w:=by rw[xf h,hp,hv];have hl:=tT (P:=ae) w g 54 54 cs (0,0) _ hg underlying54 J (by rw[F];exact B6);simp[asAddr,hl]
theorem K5:∀(n m:Nat)(f:Bool)(l:List W8),l.length<=n->l.length<=m->fq n f l=fq m f l
 |n,m,f,[],_,_=>by cases n<;>cases m<;>simp[fq]
 |0,m,f,w::r,u,_=>by simp at u
 |n+1,0,f,w::r,_,hm=>by simp at hm
 |n+1,m+1,f,w::r,u,hm=>by
  rw[fq,fq];cases H:ee r with
   |none=>rfl
   |some zA=>obtain⟨c,k⟩:=zA;simp only;rw[K5 n m false (r.drop k) (by rw[pd];simp at u;omega) (by rw[pd];simp at hm;omega)]
end Go.Proofs.YtefdakbahplnbaaGreatDoor
