/- The document's ruleOf: the walk. -/
import Derived.Test.YtefdakbahplnbaaGreatDoorK34
open Go.Proofs.Tryz
open Go renaming Value->ag,World->ac,below_regrown->cN,bodyPost_ret->ba,cell_of_row->aT,cell_regrown->aJ,frozen_of_row->cy,heap_alloc_new->a7,run_underlying->sJ,setCell_eq_setRow->cJ,setRow_heap->aV,wpList_append_lies->C3,wpList_store_row->bK,wpQuiet_nil->e6,wp_region_quiet_below->fI
open Go.Instr renaming slice->pp,sliceBound->FT,sliceBounds->FR
open Go.IntKind renaming i64->R,u32->aj,u64->ah,wrap_i64->jP
open Go.Proofs.Tryz renaming prog->ae
open Go.Value renaming agg->aw,bool->aH,int->I,oneCell'->fG,slice->ak,string->ad,tuple->az
open Go.World renaming news_of_block->lS,ownsRow_nil->lj,size_alloc->bA
open List renaming getElem?_cons_succ->c7,getElem?_cons_zero->cT,getElem?_eq_getElem->cq,getElem?_toArray->cK,length_append->cl,length_cons->fh,length_drop->pd,length_singleton->gH,mem_append->jC,mem_singleton->jB
open Option renaming none->ab,some->U
open Option.some renaming inj->dG,injEq->cm
open Prod.mk renaming injEq->eg
namespace Go.Proofs.YtefdakbahplnbaaGreatDoor
open Go.RowKit Go.Sort
theorem yO(nr:Int)(oa:Option Addr)(n cap:Nat)(a:bG):(cD nr (ak oa n cap) a).all (·.oneCell')=true:=by simp[cD,fG]
theorem amz{ws:List W8}{a:bG}{n:Nat}(h:xb ws=U (a,n)):n=2/\1<=ws.length:=by
 cases ws with
  |nil=>simp[xb]at h
  |cons x t=>
   simp only[xb]at h;split at h;.simp only[cm,eg]at h;exact⟨h.2.symm,by simp⟩
   .simp at h
theorem Vk{ws:List W8}{a:bG}{n:Nat}(h:hk ws=U (a,n)):1<=n/\n<=2/\n<=ws.length:=by
 cases ws with
  |nil=>simp[hk]at h
  |cons w r=>
   rw[Ew]at h;split at h;.simp only[cm,eg]at h;rw[<-h.2];simp
   .split at h;.simp only[cm,eg]at h;rw[<-h.2];simp
    .split at h;.obtain⟨q,h2⟩:=amz h;rw[q,fh];omega
     .simp at h
theorem alO{a x:W8}{r:List W8}{c:CD}{n:Nat}(h:yN a x r=U (c,n))(ha:bW a<=3):n=5/\2<=r.length/\jJ c:=by
 match r,h with
  |[],h=>simp[yN]at h
  |[_],h=>simp[yN]at h
  |al::aI::t,h=>
   simp only[yN]at h;split at h;.simp only[cm,eg]at h;refine⟨h.2.symm,by simp,?_⟩;rw[<-h.1];exact⟨eF (by omega),eF (k:=7) (by omega),wO _,wO _,wG⟩
   .simp at h
theorem ae2(w:W8):ng w<=6:=by
 unfold ng;cases h:(cG.take 6).findIdx? (·==w)with
  |none=>simp
  |some i=>have:=(Jp h).2;simp[cG]at this⊢;omega
theorem Q7{ws:List W8}{c:CD}{n:Nat}(h:ee ws=U (c,n)):1<=n/\n<=5/\n<=ws.length/\jJ c:=by
 match ws,h with
  |[],h=>simp[ee]at h
  |[_],h=>simp[ee]at h
  |[_,_],h=>simp[ee]at h
  |a::s::x::r,h=>
   simp only[ee]at h;split at h
   .rename_i ha;have i1:mf (bW a:Int):=eF (by omega);split at h;.obtain⟨q,h2,h3⟩:=alO h ha.2;exact⟨by omega,by omega,by simp only[fh];omega,h3⟩
    .split at h
     .split at h;.simp only[cm,eg]at h;rw[<-h.2,<-h.1];exact⟨by omega,by omega,by simp,⟨i1,eF (k:=8) (by omega),by simp,by simp,wG⟩⟩
      .simp at h
     .split at h
      .cases hp:ca x with
        |none=>rw[hp]at h;simp at h
        |some al=>obtain⟨ip,b,lo,hi⟩:=al;rw[hp]at h;simp only[cm,eg]at h;rw[<-h.2,<-h.1];obtain⟨bt,M,_⟩:=Fi hp;have z:=rM M;exact⟨by omega,by omega,by simp,⟨i1,eF (k:=9) (by omega),by simp,by simp,⟨bt,eF (by omega),eF (by omega),eF (by omega)⟩⟩⟩
      .split at h;.simp only[cm,eg]at h;rw[<-h.2,<-h.1];exact⟨by omega,by omega,by simp,⟨i1,eF (by have:=ae2 s;omega),wO _,by simp,wG⟩⟩
       .simp at h
   .simp at h
theorem DI(nr:Int)(E:ag)(a:bG):cD nr E a=#[I R nr,E,I R a.aF,I R a.aU]:=rfl
theorem Gn{W:ac}{r:Nat}(h:W.heap[r]?=U (.cells (cD 0 (ak ab 0 0) ⟨0,0⟩) 54 (0,0))):W.cell? ⟨r,0,ab⟩=U (I R 0)/\W.cell? ⟨r,1,ab⟩=U (ak ab 0 0)/\W.cell? ⟨r,2,ab⟩=U (I R 0)/\W.cell? ⟨r,3,ab⟩=U (I R 0)/\W.frozen? ⟨r,0,ab⟩=false/\W.frozen? ⟨r,1,ab⟩=false/\W.frozen? ⟨r,2,ab⟩=false/\W.frozen? ⟨r,3,ab⟩=false:=⟨aT _ _ 0 _ _ _ h,aT _ _ 1 _ _ _ h,aT _ _ 2 _ _ _ h,aT _ _ 3 _ _ _ h,cy _ _ 0 _ _ h,cy _ _ 1 _ _ h,cy _ _ 2 _ _ h,cy _ _ 3 _ _ h⟩
theorem Hy(W:ac)(g:Nat)(c0 c1 c2:Array ag)(t:TypeId)(h:W.heap[g]?=U (.cells c0 t (0,0))):(W.setRow g c1).setRow g c2=W.setRow g c2:=by
 unfold World.setRow;congr 1;apply Array.ext_getElem?;intro j;simp only[Array.getElem?_modify];by_cases hj:g=j;.subst hj;simp[h]
 .simp[hj]
theorem Fq{W:ac}{r:Nat}(h:W.heap[r]?=U (.cells (cD 0 (ak ab 0 0) ⟨0,0⟩) 54 (0,0)))(v0 v1 v2 v3:ag):(((W.setCell ⟨r,0,ab⟩ v0).setCell ⟨r,1,ab⟩ v1).setCell ⟨r,2,ab⟩ v2).setCell ⟨r,3,ab⟩ v3=W.setRow r #[v0,v1,v2,v3]:=by rw[cJ _ _ 0 _ _ _ _ h,cJ _ _ 1 _ _ _ _ (aV _ _ _ _ _ _ h),Hy _ _ _ _ _ _ h,cJ _ _ 2 _ _ _ _ (aV _ _ _ _ _ _ h),Hy _ _ _ _ _ _ h,cJ _ _ 3 _ _ _ _ (aV _ _ _ _ _ _ h),Hy _ _ _ _ _ _ h];rfl
theorem Gd(b o m c k:Nat)(aI:Int)(hz:aI=k)(z:k<=m)(hm:m<=c)(W:ac):(pp 22 (ak (U ⟨b,o,ab⟩) m c) (U (I R aI)) ab ab).run ae W= .ok (ak (U ⟨b,if c=k then o else o+k,ab⟩) (m-k) (c-k)) W:=by
 subst hz;have q:(0:Int)<=k:=by omega
 have h2:(k:Int)<=m:=by omega
 have h3:(m:Int)<=c:=by omega
 by_cases H:c=k;.simp[pp,FR,FT,asIntOf,sJ underlying22,go_sem,H];omega
 .simp[pp,FR,FT,asIntOf,sJ underlying22,go_sem,H];omega
def RC:ag->Nat|ak _ n _=>n|_=>0
theorem Wf{n:Nat}{f:Bool}{w:W8}{r:List W8}{c:CD}{k:Nat}(hw:w=if f then zx else yt)(H:ee r=U (c,k)):fq (n+1) f (w::r)=(fq n false (r.drop k)).map (c::·):=by rw[fq,if_pos hw,H]
theorem agJ(i:Nat)(_h:i<9):qa (i:Int)=mi.getD i []:=rfl
set_option maxHeartbeats 4000000 in set_option maxRecDepth 100000 in theorem aeI(bp:W8)(ve:bp.length<=9000)(w:ac):Calls ae 16 #[ad (bs bp)] w fun e w'=>amj (ke (ck 32 bp)) e w w'/\Below w.heap.size w w':=by
 obtain⟨ws,e8⟩:=af (ck 32 bp);obtain⟨V0,dR,q6,fM,iA⟩:∃V,V=w.alloc (.cells #[I R 0,ak ab 0 0,I R 0,I R 0] 54)/\V.heap[w.heap.size]?=U (.cells (cD 0 (ak ab 0 0) ⟨0,0⟩) 54 (0,0))/\Below w.heap.size w V/\V.heap.size=w.heap.size+1:=⟨_,J,a7 _ _,ai _ _,by rw[bA]⟩;have HS:=JY (bs bp) (by rw[ct];exact ve) 32 32 J V0;rw[fy,<-e8]at HS;have tp:ws.length<=9001:=by rw[e8];have:=yI (c:=32) bp;omega
 have s4:∀x∈ws,x.length<=9000:=by rw[e8];exact yd ve
 have E8:0<ws.length:=by rw[e8];exact List.length_pos_iff.2 (BS _ _)
 rw[<-e8];obtain⟨B,N⟩:=af (bs bp);rw[<-N]at HS⊢;clear e8 N ve;have kC:=aa s4;go_enter func16,ntmps16;go_wp2_with fail;rw[show w.alloc (Obj.cells #[I R 0,ak ab 0 0,I R 0,I R 0] 54)=V0 from dR.symm];refine HS.mono ?_;rintro e X⟨⟨oa,cap,rfl,hC,lw,bN⟩,hX⟩;clear HS dR;obtain⟨b,off,rfl,jS,I7⟩:=bN.ez E8;have Vs:w9 X b off ws:=I7;clear bN I7;have V_:X.heap[w.heap.size]?=U (.cells (cD 0 (ak ab 0 0) ⟨0,0⟩) 54 (0,0)):=(hX.block _ (by omega)).trans q6;have HXb:=ax fM hX;have Ko:=hX.size;obtain⟨r5,sN⟩:=af X.heap.size;obtain⟨Y0,s6,I'⟩:∃Y,Y=X.alloc (.cells #[I R 0,ak ab 0 0,I R 0,I R 0] 54)/\UX w r5 b off ws 0 [] ⟨0,0⟩ (ak ab 0 0) Y:=by refine⟨_,J,⟨⟨ax HXb (ai _ _),((ai X _).block _ (by omega)).trans V_,by rw[sN];exact a7 _ _,fun i x hi=>ao (ai _ _) (Vs i x hi),by omega,by omega⟩,lj _ _ _ _⟩⟩
 have b9:=aa I';have pG:=V4 ws s4 (U ⟨b,off,ab⟩) cap Y0 (w9.ajn I'.cx.ft (by have:=I'.cx.lt;have:=I'.cx.le;omega)) tp;have MO:=aa (show ke ws=match hk ws with|U (a,n)=>if n<ws.length then(match fq ws.length true (ws.drop (n+1))with|U cs=>if j_ (ws.getD n [])<0 then ab else U ⟨j_ (ws.getD n []),cs,a⟩|ab=>ab)else ab|ab=>ab from J);clear I' HXb V_ hX fM q6 iA jS Vs s4;obtain⟨bu,hN⟩:=af ws.length;rw[<-hN]at pG hC tp E8⊢;have HN:=aa hN;clear hN Ko;go_wp2_with fail;rw[show X.alloc (.cells #[I R 0,ak ab 0 0,I R 0,I R 0] 54)=Y0 from s6.symm,<-sN];refine pG.mono ?_;rintro e Y⟨rfl,hY⟩;clear pG s6;have HU:=aa (b9.out.au hY);clear b9 hY sN X;have fP:(0:Nat)<=0:=Nat.le_refl _;have cX:(0:Nat)<=maxLen:=by unfold maxLen;omega
 cases ri:hk ws with
  |none=>
   have HR:=aa (show ke ws=ab by rw[MO.out,ri]);unfold u2 fe;simp only;have iJ:=aa (HU.out.au (ai Y (.cells #[I R 0,I R 0] 30)));have c0:=iJ.out.cell 0;have c1:=iJ.out.cell 1;have c2:=iJ.out.cell 2;have c3:=iJ.out.cell 3;simp only[cD,cK,cT,c7]at c0 c1 c2 c3;have aZ:=iJ.out.cx.ci;obtain⟨rc,cC⟩:∃rc:Array ag,rc=cD 0 (ak ab 0 0) ⟨0,0⟩:=⟨_,J⟩;have mM:rc.all (·.oneCell')=true:=by rw[cC];exact yO _ _ _ _ _
   obtain⟨q0,q1,q2,q3,g0,g1,g2,g3⟩:=Gn aZ;go_wp2;rw[Fq aZ,<-DI 0 (ak ab 0 0) ⟨0,0⟩,<-cC];refine ba (v:=az #[aw rc,aH false]) (xu J _ _ w.heap.size rc _ (by rw[cC];rfl) J J (aV _ _ _ _ _ _ aZ)) J ⟨?_,(iJ.out.j' _).1⟩;rw[HR.out,cC];exact⟨_,_,_,_,_,fP,cX,J⟩
  |some akw=>
   obtain⟨⟨aN,aP⟩,n⟩:=akw;obtain⟨GR,lM,yU⟩:=Vk ri;rw[<-HN.out]at yU;unfold u2 fe;simp only;have iJ:=aa (HU.out.au (ai Y (.cells #[I R aN,I R aP] 30)));have c0:=iJ.out.cell 0;have c1:=iJ.out.cell 1;have c2:=iJ.out.cell 2;have c3:=iJ.out.cell 3;simp only[cD,cK,cT,c7]at c0 c1 c2 c3;have n0:¬(n:Int)=0:=by omega
   by_cases Om:n<bu;case neg=>
    have HR:=aa (show ke ws=ab by rw[MO.out,ri];simp only;rw[if_neg (by rw[<-HN.out];exact Om)]);have aZ:=iJ.out.cx.ci;obtain⟨rc,cC⟩:∃rc:Array ag,rc=cD 0 (ak ab 0 0) ⟨0,0⟩:=⟨_,J⟩;have mM:rc.all (·.oneCell')=true:=by rw[cC];exact yO _ _ _ _ _
    have n1:(bu:Int)<=n:=by omega
    obtain⟨q0,q1,q2,q3,g0,g1,g2,g3⟩:=Gn aZ;go_wp2;rw[Fq aZ,<-DI 0 (ak ab 0 0) ⟨0,0⟩,<-cC];refine ba (v:=az #[aw rc,aH false]) (xu J _ _ w.heap.size rc _ (by rw[cC];rfl) J J (aV _ _ _ _ _ _ aZ)) J ⟨?_,(iJ.out.j' _).1⟩;rw[HR.out,cC];exact⟨_,_,_,_,_,fP,cX,J⟩
   have n1:¬(bu:Int)<=n:=by omega
   have o5:=aa (show ke ws=match fq ws.length true (ws.drop (n+1))with|U cs=>if j_ (ws.getD n [])<0 then ab else U ⟨j_ (ws.getD n []),cs,⟨aN,aP⟩⟩|ab=>ab by rw[MO.out,ri];simp only;rw[if_pos (by rw[<-HN.out];exact Om)]);clear MO ri;have f0:=iJ.out.b5 0;have f2:=iJ.out.b5 2;have f3:=iJ.out.b5 3;obtain⟨x,hx⟩:∃x,ws[n]?=U x:=⟨_,cq (by rw[<-HN.out];exact Om)⟩;have hxd:ws.getD n []=x:=by rw[List.getD_eq_getElem?_getD,hx];rfl
   rw[hxd]at o5;have HX:=aa hx;clear hx hxd;have ot:=aa (show UX w r5 b off ws (-1) [] ⟨aN,aP⟩ (ak ab 0 0) ((((Y.alloc (.cells #[I R aN,I R aP] 30)).setCell ⟨r5,2,ab⟩ (I R aN)).setCell ⟨r5,3,ab⟩ (I R aP)).setCell ⟨r5,0,ab⟩ (I R (-1)))from⟨((iJ.out.cx.set 2 (I R aN) (a':=⟨aN,0⟩) (nr':=0) (sv':=ak ab 0 0) J).set 3 (I R aP) (a':=⟨aN,aP⟩) (nr':=0) (sv':=ak ab 0 0) J).set 0 (I R (-1)) (nr':=-1) (a':=⟨aN,aP⟩) (sv':=ak ab 0 0) J,lj _ _ _ _⟩);go_wp2;clear HU iJ c0 c1 c2 c3 f0 f2 f3;go_loopw[8](fun aL w'=>∃i:Nat,i<=9/\aL=I R i/\Hid (UX w r5 b off ws (Ae x i) [] ⟨aN,aP⟩ (ak ab 0 0) w'))(fun aL _=>9-(intOf aL).toNat);case atStart=>exact⟨0,by omega,J,ot⟩
   case round=>
    obtain⟨i,hi,rfl,G⟩:=hrel;clear ot;by_cases am:i<9
    .have x0:=G.out.cx.ft n x HX.out;have Mn:=fun W=>anX i (by omega) W;obtain⟨nm,qw⟩:∃B:ByteArray,B=bs (qa (i:Int)):=⟨_,J⟩;rw[<-qw]at Mn;obtain⟨DW,A9⟩:∃B:ByteArray,B=bs x:=⟨_,J⟩;rw[<-A9]at x0;have EF:(nm.toList==DW.toList)=decide (mi.getD i []=x):=by
      rw[qw,A9,lh,lh,agJ i am];by_cases h:mi.getD i []=x;.rw[h];simp
      .rw[decide_eq_false h];exact pr h
     have g0:=aJ x0;have pR:∀d os,Calls ae 41 #[] (grow (redrawn wr d) os) fun e bF=>e= .returned (aw Az)/\∃p:Regrown,bF=grow (redrawn wr p.d) p.os:=fun d os=>Calls.regrown_of (aod _);obtain⟨NM,BT⟩:=af Az;rw[<-BT]at Mn pR;have i1:(0:Int)<=i:=by omega
     have i2:(i:Int)<9:=by omega
     have i3:(0:Int)<=n:=by omega
     have i4:(n:Int)<bu:=by omega
     have bN:Ae x (i+1)=if mi.getD i []=x then(i:Int)else Ae x i:=J;clear qw A9 BT x0;by_cases N:mi.getD i []=x
     .rw[decide_eq_true N]at EF;rw[if_pos N]at bN;have fz:=aa bN;clear bN N;go_wp2_with fail;refine fI (by kernel_rfl) (by kernel_rfl) ?_;repeat(go_big_quiet_step((go_at_call 41;exact pR _ _)))
      refine e6 ?_;intro _ bT;obtain⟨⟨dq,bJ⟩,bY⟩:=bT;subst bY;have HD:=aa (G.out.au (cN wr dq bJ));obtain⟨aK,hZ⟩:=af (grow (redrawn wr dq) bJ);rw[<-hZ]at HD⊢;clear hZ g0 pR Mn;have f0:=HD.out.b5 0;have c0:=HD.out.cell 0;simp only[cD,cK,cT]at c0;have HE:Hid (UX w r5 b off ws (Ae x (i+1)) [] ⟨aN,aP⟩ (ak ab 0 0) (aK.setCell ⟨r5,0,ab⟩ (I R (i:Int)))):=aa (by rw[fz.out];exact HD.out.afX i);go_wp2;go_round;case rel=>exact⟨i+1,by omega,by go_num,HE⟩
      case measure=>simp[intOf];omega
     .rw[decide_eq_false N]at EF;rw[if_neg N]at bN;have fz:=aa bN;clear bN N;go_wp2_with fail;refine fI (by kernel_rfl) (by kernel_rfl) ?_;repeat(go_big_quiet_step((go_at_call 41;exact pR _ _)))
      refine e6 ?_;intro _ bT;obtain⟨⟨dq,bJ⟩,bY⟩:=bT;subst bY;have HD:=aa (G.out.au (cN wr dq bJ));obtain⟨aK,hZ⟩:=af (grow (redrawn wr dq) bJ);rw[<-hZ]at HD⊢;rw[<-fz.out]at HD;clear hZ g0 pR Mn;go_wp2;go_round;case rel=>exact⟨i+1,by omega,by go_num,HD⟩
      case measure=>simp[intOf];omega
    .have hi9:i=9:=by omega
     rw[hi9,aeH]at G;have uE:¬(i:Int)<9:=by omega
     clear hi9 hi am;obtain⟨o1,gC⟩:=af (if cap=n+1 then off else off+(n+1));obtain⟨m1,nu⟩:=af (bu-(n+1));obtain⟨c1,ZD⟩:=af (cap-(n+1));have Cs:∀W,(pp 22 (ak (U ⟨b,off,ab⟩) bu cap) (U (I R ((n:Int)+1))) ab ab).run ae W= .ok (ak (U ⟨b,o1,ab⟩) m1 c1) W:=fun W=>by rw[Gd b off bu cap (n+1) ((n:Int)+1) (by omega) (by omega) hC W,<-gC,<-nu,<-ZD]
     have dA:0<m1->o1=off+(n+1):=fun h=>by rw[gC,if_neg (by omega)]
     have RY:(n+1)+m1=bu:=by omega
     have Fx:m1<=c1:=by omega
     have S_:c1<=maxLen:=by omega
     have amh:R.wrap ((n:Int)+1)=(n:Int)+1:=by rw[jP];omega
     have CE:=aa (And.intro dA (And.intro RY (And.intro Fx S_)));obtain⟨nr,b0⟩:=af (j_ x);have RF:=Qb x;rw[<-b0]at G o5 RF;have m8:=aa RF;have rn:=aa (show fq ws.length true (ws.drop (n+1))=(fq m1 ([]:List CD).isEmpty (ws.drop (n+1))).map (([]:List CD)++·)by rw[K5 ws.length m1 true _ (by rw[pd];omega) (by rw[pd,<-HN.out];omega)];simp);clear gC nu ZD dA RY Fx S_ b0 RF;go_wp2;clear Cs amh;go_loopw[4](fun eG w'=>∃(k m c o:Nat)(cs:List CD)(E:ag),eG=ak (U ⟨b,o,ab⟩) m c/\Hid ((0<m->o=off+k)/\k+m=bu/\m<=c/\c<=maxLen)/\Hid (UX w r5 b off ws nr cs ⟨aN,aP⟩ E w')/\Hid (fq ws.length true (ws.drop (n+1))=(fq m cs.isEmpty (ws.drop k)).map (cs++·))/\Hid (∀al∈cs,jJ al)/\Hid (cs.length<=k))(fun eG _=>RC eG);case atStart=>exact⟨n+1,m1,c1,o1,[],_,J,CE,G,rn,aa (fun al hy=>by cases hy),aa (by simp)⟩
     case round=>
      obtain⟨k,m,c,o,cs,E,rfl,HI,G,HD,kz,ff⟩:=hrel;clear CE rn;obtain⟨oc,cc,Cu,eW,jZ,_,_⟩:=Mz G.out.cW kz.out;subst Cu;have c0:=G.out.cell 0;have c1:=G.out.cell 1;have c2:=G.out.cell 2;have c3:=G.out.cell 3;simp only[cD,cK,cT,c7]at c0 c1 c2 c3;by_cases og:m=0
      .subst og;have ZQ:=aa (show fq ws.length true (ws.drop (n+1))=U cs by rw[HD.out,List.drop_eq_nil_of_le (by have:=HI.out.2.1;have:=HN.out;omega)];simp[fq]);have RP:(wr.setCell ⟨w.heap.size,0,ab⟩ (I R nr)).cell? ⟨r5,0,ab⟩=U (I R nr):=(dt (Below.heap_setCell wr ⟨w.heap.size,0,ab⟩ _ r5 (show r5≠w.heap.size by have:=G.out.cx.le;omega)) 0).trans c0;have aZ:=G.out.cx.ci;obtain⟨rc,cC⟩:∃rc:Array ag,rc=cD nr (ak oc cs.length cc) ⟨aN,aP⟩:=⟨_,J⟩;have mM:rc.all (·.oneCell')=true:=by rw[cC];exact yO _ _ _ _ _
       obtain⟨q0,q1,q2,q3,g0,g1,g2,g3⟩:=Gn aZ;by_cases Yx:nr<0
       .have HR:=aa (show ke ws=ab by rw[o5.out,ZQ.out];simp only;rw[if_pos Yx]);have z1:¬(0:Int)<=nr:=by omega
        go_wp2_with fail;go_region;all_goals rw[Fq aZ,<-DI nr (ak oc cs.length cc) ⟨aN,aP⟩,<-cC];go_wp2;refine ba (v:=az #[aw rc,aH false]) (xu J _ (wr.setRow w.heap.size rc).drew w.heap.size rc _ (by rw[cC];rfl) J (by first|rfl|exact congrArg aH (decide_eq_false (by omega))) (aV wr _ _ rc _ _ aZ)) J ⟨?_,(G.out.j' _).1.drew⟩;rw[HR.out,cC];exact⟨_,_,_,_,_,eW,jZ,J⟩
       .have HR:=aa (show ke ws=U ⟨nr,cs,⟨aN,aP⟩⟩by rw[o5.out,ZQ.out];simp only;rw[if_neg Yx]);have z1:(0:Int)<=nr:=by omega
        go_wp2_with fail;go_region;all_goals rw[Fq aZ,<-DI nr (ak oc cs.length cc) ⟨aN,aP⟩,<-cC];go_wp2;refine ba (v:=az #[aw rc,aH true]) (xu J _ (wr.setRow w.heap.size rc).drew w.heap.size rc _ (by rw[cC];rfl) J (by first|rfl|exact congrArg aH (decide_eq_true (by omega))) (aV wr _ _ rc _ _ aZ)) J ⟨?_,(G.out.j' _).1.drew⟩;obtain⟨Xc,Wb,zC,_,_,y6,it⟩:=Mz (yY (G.out.j' rc).2 (Below.refl _ _).drew) kz.out;simp only[Value.slice.injEq]at zC;obtain⟨rfl,_,rfl⟩:=zC;rw[HR.out];exact⟨oc,cc,by rw[cC],eW,jZ,y6,fun fL xS e=>by have q:=it fL xS e;have h2:=G.out.cx.le;exact⟨by omega,q.2⟩⟩
      .obtain⟨m',rfl⟩:∃m',m=m'+1:=⟨m-1,by omega⟩;have ho:=HI.out.1 (by omega);subst ho;have Do:=HI.out.2.1;have Fx:=HI.out.2.2.1;have S_:=HI.out.2.2.2;have NV:k<ws.length:=by rw[<-HN.out];omega
       obtain⟨al,hy⟩:∃al,ws[k]?=U al:=⟨_,cq NV⟩;have q9:ws.drop k=al::ws.drop (k+1):=by rw[List.drop_eq_getElem_cons NV];rw[cq NV]at hy;rw[dG hy]
       have y0:=G.out.cx.ft k al hy;obtain⟨yq,Cd⟩:∃B:ByteArray,B=bs al:=⟨_,J⟩;rw[<-Cd]at y0;have GY:yq.toList=al:=by rw[Cd,lh]
       have ahH:cs.length<=9001:=by have:=ff.out;omega
       have j1:(0:Int)<(m':Int)+1:=by omega
       have HY:=aa q9;clear Cd hy NV q9 og;have G2:=aJ y0;have abO:=eW;obtain⟨aC,hL⟩:=af cs.length;rw[<-hL]at c1 eW ahH;have gs:=aJ c1;have hE:cs.isEmpty=decide (aC=0):=by rw[hL];cases cs<;>simp
       have qo:=aa GY;have Ee:=aa hE;have BR:=aa hL;clear GY hE hL;by_cases eT:al=(if cs.isEmpty then zx else yt);case neg=>
        have HR:=aa (show ke ws=ab by rw[o5.out,HD.out,HY.out,fq,if_neg eT];rfl);by_cases x':al=zx
        .have b1:(yq.toList==[105,102])=true:=by rw[qo.out,x'];rfl
         have Aa:¬aC=0:=fun h0=>eT (by rw[Ee.out,decide_eq_true h0,x'];rfl);have wf:¬(aC:Int)=0:=by omega
         have b3:((aC:Int)==0)=false:=by simpa using wf
         clear x' eT;go_wp2_with fail;refine fI (by kernel_rfl) (by kernel_rfl) ?_;repeat(go_big_quiet_step(fail))
         refine e6 ?_;intro _ bT;obtain⟨⟨dq,bJ⟩,bY⟩:=bT;subst bY;have fw:=aa (G.out.au (cN wr dq bJ));obtain⟨aK,hZ⟩:=af (grow (redrawn wr dq) bJ);rw[<-hZ]at fw⊢;clear hZ G2 gs c0 c1 c2 c3 y0;have c0:=fw.out.cell 0;have c1:=fw.out.cell 1;have c2:=fw.out.cell 2;have c3:=fw.out.cell 3;simp only[cD,cK,cT,c7]at c0 c1 c2 c3;rw[<-BR.out]at c1;have aZ:=fw.out.cx.ci;obtain⟨rc,cC⟩:∃rc:Array ag,rc=cD nr (ak oc aC cc) ⟨aN,aP⟩:=⟨_,J⟩;have mM:rc.all (·.oneCell')=true:=by rw[cC];exact yO _ _ _ _ _
         go_wp2_with(refine bK J 54 _ _ J w.heap.size (cD nr (ak oc aC cc) ⟨aN,aP⟩) J J 54 _ aZ B6 J (yO _ _ _ _ _) ?_);refine ba (v:=az #[aw rc,aH false]) (xu J _ _ w.heap.size rc _ (by rw[cC];rfl) J J (by rw[cC];exact aV _ _ _ _ _ _ aZ)) J ⟨?_,(fw.out.j' _).1⟩;rw[HR.out,cC];exact⟨_,_,_,_,_,eW,jZ,J⟩
        .have b1:(yq.toList==[105,102])=false:=by rw[qo.out];exact pr x'
         by_cases ts:al=yt
         .have b2:(yq.toList==[97,110,100])=true:=by rw[qo.out,ts];rfl
          have Aa:aC=0:=Classical.byContradiction fun h0=>eT (by rw[Ee.out,decide_eq_false h0,ts];rfl);have wf:(aC:Int)=0:=by omega
          have b3:((aC:Int)==0)=true:=by simpa using wf
          clear x' ts eT Aa wf;go_wp2_with fail;refine fI (by kernel_rfl) (by kernel_rfl) ?_;repeat(go_big_quiet_step(fail))
          refine e6 ?_;intro _ bT;obtain⟨⟨dq,bJ⟩,bY⟩:=bT;subst bY;have fw:=aa (G.out.au (cN wr dq bJ));obtain⟨aK,hZ⟩:=af (grow (redrawn wr dq) bJ);rw[<-hZ]at fw⊢;clear hZ G2 gs c0 c1 c2 c3 y0;have c0:=fw.out.cell 0;have c1:=fw.out.cell 1;have c2:=fw.out.cell 2;have c3:=fw.out.cell 3;simp only[cD,cK,cT,c7]at c0 c1 c2 c3;rw[<-BR.out]at c1;have aZ:=fw.out.cx.ci;obtain⟨rc,cC⟩:∃rc:Array ag,rc=cD nr (ak oc aC cc) ⟨aN,aP⟩:=⟨_,J⟩;have mM:rc.all (·.oneCell')=true:=by rw[cC];exact yO _ _ _ _ _
          go_wp2_with(refine bK J 54 _ _ J w.heap.size (cD nr (ak oc aC cc) ⟨aN,aP⟩) J J 54 _ aZ B6 J (yO _ _ _ _ _) ?_);refine ba (v:=az #[aw rc,aH false]) (xu J _ _ w.heap.size rc _ (by rw[cC];rfl) J J (by rw[cC];exact aV _ _ _ _ _ _ aZ)) J ⟨?_,(fw.out.j' _).1⟩;rw[HR.out,cC];exact⟨_,_,_,_,_,eW,jZ,J⟩
         .have b2:(yq.toList==[97,110,100])=false:=by rw[qo.out];exact pr ts
          clear x' ts eT;go_wp2_with fail;refine fI (by kernel_rfl) (by kernel_rfl) ?_;repeat(go_big_quiet_step(fail))
          refine e6 ?_;intro _ bT;obtain⟨⟨dq,bJ⟩,bY⟩:=bT;subst bY;have fw:=aa (G.out.au (cN wr dq bJ));obtain⟨aK,hZ⟩:=af (grow (redrawn wr dq) bJ);rw[<-hZ]at fw⊢;clear hZ G2 gs c0 c1 c2 c3 y0;have c0:=fw.out.cell 0;have c1:=fw.out.cell 1;have c2:=fw.out.cell 2;have c3:=fw.out.cell 3;simp only[cD,cK,cT,c7]at c0 c1 c2 c3;rw[<-BR.out]at c1;have aZ:=fw.out.cx.ci;obtain⟨rc,cC⟩:∃rc:Array ag,rc=cD nr (ak oc aC cc) ⟨aN,aP⟩:=⟨_,J⟩;have mM:rc.all (·.oneCell')=true:=by rw[cC];exact yO _ _ _ _ _
          go_wp2_with(refine bK J 54 _ _ J w.heap.size (cD nr (ak oc aC cc) ⟨aN,aP⟩) J J 54 _ aZ B6 J (yO _ _ _ _ _) ?_);refine ba (v:=az #[aw rc,aH false]) (xu J _ _ w.heap.size rc _ (by rw[cC];rfl) J J (by rw[cC];exact aV _ _ _ _ _ _ aZ)) J ⟨?_,(fw.out.j' _).1⟩;rw[HR.out,cC];exact⟨_,_,_,_,_,eW,jZ,J⟩
       case pos=>
        have hb:∃b1 b2 b3:Bool,(yq.toList==[105,102])=b1/\(yq.toList==[97,110,100])=b2/\((aC:Int)==0)=b3/\((b1=true/\b3=true)\/(b1=false/\b2=true/\b3=false)):=by
         by_cases h0:aC=0;.rw[Ee.out,decide_eq_true h0]at eT;exact⟨true,_,true,by rw[qo.out,eT];rfl,J,by rw[h0];rfl, .inl ⟨J,J⟩⟩
         .rw[Ee.out,decide_eq_false h0]at eT;refine⟨false,true,false,by rw[qo.out,eT];rfl,by rw[qo.out,eT];rfl,?_, .inr ⟨J,J,J⟩⟩;have:¬(aC:Int)=0:=by omega
          simpa using this
        obtain⟨t1,mO⟩:=af (ws.drop (k+1));have Qv:t1.length=m':=by rw[mO,pd,<-HN.out];omega
        obtain⟨o1,gC⟩:=af (if c=1 then off+k else off+k+1);obtain⟨y7,Xi⟩:=af (c-1);have Cs:∀W,(pp 22 (ak (U ⟨b,off+k,ab⟩) (m'+1) c) (U (I R 1)) ab ab).run ae W= .ok (ak (U ⟨b,o1,ab⟩) m' y7) W:=fun W=>by rw[Gd b (off+k) (m'+1) c 1 1 J (by omega) Fx W,<-gC,<-Xi];rfl
        have W5:∀X,UX w r5 b off ws nr cs ⟨aN,aP⟩ (ak oc cs.length cc) X->hq (U ⟨b,o1,ab⟩) t1 X:=fun X hX=>⟨fun h0=>by
         have ho:o1=off+(k+1):=by rw[gC,if_neg (by omega)];omega
         rw[ho,mO];exact⟨b,off+(k+1),J,by have:=hX.cx.lt;have:=hX.cx.le;omega,hX.cx.ft.drop (k+1)⟩⟩;have Y_:∀aI∈t1,aI.length<=9000:=fun aI hz=>kC.out aI (by rw[mO]at hz;exact List.mem_of_mem_drop hz);have kO:=fun X hX=>amB t1 Y_ (U ⟨b,o1,ab⟩) y7 X (W5 X hX) (by omega);rw[Qv]at kO;have uK:=aa mO;have M8:=aa Qv;have ue:=aa eT;clear Y_ W5 mO Qv gC eT Xi;have key:∀aK,UX w r5 b off ws nr cs ⟨aN,aP⟩ (ak oc cs.length cc) aK->True:=fun _ _=>trivial;obtain⟨b1,b2,b3,e1,e2,mt,Pa⟩:=hb;have ap4:True:=trivial;rcases Pa with⟨rfl,rfl⟩|⟨rfl,rfl,rfl⟩
        .go_wp2_with fail;refine fI (by kernel_rfl) (by kernel_rfl) ?_;repeat(go_big_quiet_step(fail))
         refine e6 ?_;intro _ bT;obtain⟨⟨dq,bJ⟩,bY⟩:=bT;subst bY;have fw:=aa (G.out.au (cN wr dq bJ));obtain⟨aK,hZ⟩:=af (grow (redrawn wr dq) bJ);rw[<-hZ]at fw⊢;clear hZ G2 gs c0 c1 c2 c3 y0;go_wp2_with fail;refine(kO _ fw.out).mono ?_;rintro e Z1⟨rfl,eH⟩;replace fw:=aa (fw.out.au eH);clear eH kO Cs;cases xr:ee t1 with
          |none=>have HR:=aa (show ke ws=ab by rw[o5.out,HD.out,HY.out,fq,if_pos ue.out,<-uK.out,xr];rfl);unfold jo bm cu bZ;simp only;have be:=aa (fw.out.au (ai Z1 (.cells #[I R 0,I R 0,I ah 0,I ah 0,ad ⟨#[]⟩,I aj 0,I R 0,I R 0,I R 0] 129)));have c0:=be.out.cell 0;have c1:=be.out.cell 1;have c2:=be.out.cell 2;have c3:=be.out.cell 3;simp only[cD,cK,cT,c7]at c0 c1 c2 c3;have aZ:=be.out.cx.ci;obtain⟨rc,cC⟩:∃rc:Array ag,rc=cD nr (ak oc cs.length cc) ⟨aN,aP⟩:=⟨_,J⟩;obtain⟨q0,q1,q2,q3,g0,g1,g2,g3⟩:=Gn aZ;go_wp2;rw[Fq aZ,<-DI nr (ak oc cs.length cc) ⟨aN,aP⟩,<-cC];refine ba (v:=az #[aw rc,aH false]) (xu J _ _ w.heap.size rc _ (by rw[cC];rfl) J J (aV _ _ _ _ _ _ aZ)) J ⟨?_,(be.out.j' _).1⟩;rw[HR.out,cC];exact⟨_,_,_,_,_,abO,jZ,J⟩
          |some wy=>
           obtain⟨⟨a6,op,v,mm,gl,⟨ip,cV,lo,hh⟩⟩,n2⟩:=wy;obtain⟨acl,ae3,R7,zJ⟩:=Q7 xr;rw[M8.out]at R7;have Ox:=aa zJ;unfold jo bm;simp only;obtain⟨eq,d8,dh,dD,dz⟩:=KA;obtain⟨BX,R6⟩:∃o:Obj,o= .cells #[I R a6,I R op,I ah v,I ah mm,ad gl,I aj ip,I R cV,I R lo,I R hh] 129:=⟨_,J⟩;have be:=aa (fw.out.au (ai Z1 (.cells #[I R a6,I R op,I ah v,I ah mm,ad gl,I aj ip,I R cV,I R lo,I R hh] 129)));have c1:=be.out.cell 1;simp only[cD,cK,cT,c7]at c1;have n20:¬(n2:Int)=0:=by omega
           obtain⟨s_,dA⟩:=af (if c=1+n2 then off+k else off+k+(1+n2));obtain⟨m2,B0⟩:=af (m'+1-(1+n2));obtain⟨vd,Ho⟩:=af (c-(1+n2));have akv:∀W,(pp 22 (ak (U ⟨b,off+k,ab⟩) (m'+1) c) (U (I R (1+(n2:Int)))) ab ab).run ae W= .ok (ak (U ⟨b,s_,ab⟩) m2 vd) W:=fun W=>by rw[Gd b (off+k) (m'+1) c (1+n2) (1+(n2:Int)) (by omega) (by omega) Fx W,<-dA,<-B0,<-Ho]
           have aeV:R.wrap (1+(n2:Int))=1+(n2:Int):=by rw[jP];omega
           have j4:=aa (show(0<m2->s_=off+(k+1+n2))/\k+1+n2+m2=bu/\m2<=vd/\vd<=maxLen from⟨fun h0=>by rw[dA,if_neg (by omega)];omega,by omega,by omega,by omega⟩);have Cr:m2<m'+1:=by omega
           have GA:=aa (show fq ws.length true (ws.drop (n+1))=(fq m2 (cs++[(⟨a6,op,v,mm,gl,⟨ip,cV,lo,hh⟩⟩:CD)]).isEmpty (ws.drop (k+1+n2))).map ((cs++[(⟨a6,op,v,mm,gl,⟨ip,cV,lo,hh⟩⟩:CD)])++·)by rw[HD.out,HY.out,<-uK.out,Wf ue.out xr,uK.out,List.drop_drop,K5 m' m2 false _ (by rw[pd,<-HN.out];omega) (by rw[pd,<-HN.out];omega),show(cs++[(⟨a6,op,v,mm,gl,⟨ip,cV,lo,hh⟩⟩:CD)]).isEmpty=false by simp,Option.map_map];congr 1;funext l;simp);have GJ:=aa (show∀al∈cs++[(⟨a6,op,v,mm,gl,⟨ip,cV,lo,hh⟩⟩:CD)],jJ al from fun al hy=>by
            rcases jC.1 hy with h|h;.exact kz.out al h
            .rw[jB]at h;rw[h];exact Ox.out);have Cc:=aa (show(cs++[(⟨a6,op,v,mm,gl,⟨ip,cV,lo,hh⟩⟩:CD)]).length<=k+1+n2 by have:=ff.out;rw[cl,gH];omega);have ahb:cs.length<=9001:=by have:=ff.out;omega
           have Ob:=be.out.cx.lt;rw[bA]at Ob;clear dA B0 Ho Do xr ue uK M8 zJ BR Ee qo e1 e2 mt;go_wp2_with(first|(refine C3 _ (by rfl) _ _ _ (by rfl) (r5+1) 129 eq _ 9 80 underlying52 d8 dh dD dz J (by omega) (ak oc cs.length cc) cs.length (gO cs) (by rfl) (be.out.cW.alloc _) ⟨Z1.heap.size+1,0,ab⟩ 1 1 [I R a6,I R op,I ah v,I ah mm,ad gl,I aj ip,I R cV,I R lo,I R hh] (by rfl) (by rfl) (lS (cs:=#[I R a6,I R op,I ah v,I ah mm,ad gl,I aj ip,I R cV,I R lo,I R hh]) (t:=129) (fr:=(0,0)) (by have h:=a7 (Z1.alloc (.cells #[I R a6,I R op,I ah v,I ah mm,ad gl,I aj ip,I R cV,I R lo,I R hh] 129)) (.cells #[I R a6,I R op,I ah v,I ah mm,ad gl,I aj ip,I R cV,I R lo,I R hh] 129);rwa[bA]at h)) (by simp[fG]) (by omega) (by simp only[maxLen];omega) (by omega) (by rw[bA,bA];omega) (Z1.heap.size+2) (by simp) ?_;intro gg bS w2 du bU bE d6;have HW:=aa (be.out.cx.grown _ bU (fun k z=>(be.out.cW.lt k z).1));have HO:=aa du;have jT:w2.cell? ⟨r5,1,ab⟩=U (ak oc cs.length cc):=aT _ _ 1 _ _ _ HW.out.row;have j7:w2.frozen? ⟨r5,1,ab⟩=false:=cy _ _ 1 _ _ HW.out.row;clear du bU bE d6));have dC:=aa (UX.Zf (mZ:=cs++[⟨a6,op,v,mm,gl,⟨ip,cV,lo,hh⟩⟩]) (sv':=ak (U ⟨gg,0,ab⟩) (cs.length+1) bS) HW.out (by rw[cl,gH,R2];exact HO.out));clear jT j7 HW HO be c1;go_wp2;go_round;case rel=>exact⟨k+1+n2,m2,vd,s_,_,_,J,j4,dC,GA,GJ,Cc⟩
           case measure=>simp only[RC];omega
        .go_wp2_with fail;refine fI (by kernel_rfl) (by kernel_rfl) ?_;repeat(go_big_quiet_step(fail))
         refine e6 ?_;intro _ bT;obtain⟨⟨dq,bJ⟩,bY⟩:=bT;subst bY;have fw:=aa (G.out.au (cN wr dq bJ));obtain⟨aK,hZ⟩:=af (grow (redrawn wr dq) bJ);rw[<-hZ]at fw⊢;clear hZ G2 gs c0 c1 c2 c3 y0;go_wp2_with fail;refine(kO _ fw.out).mono ?_;rintro e Z1⟨rfl,eH⟩;replace fw:=aa (fw.out.au eH);clear eH kO Cs;cases xr:ee t1 with
          |none=>have HR:=aa (show ke ws=ab by rw[o5.out,HD.out,HY.out,fq,if_pos ue.out,<-uK.out,xr];rfl);unfold jo bm cu bZ;simp only;have be:=aa (fw.out.au (ai Z1 (.cells #[I R 0,I R 0,I ah 0,I ah 0,ad ⟨#[]⟩,I aj 0,I R 0,I R 0,I R 0] 129)));have c0:=be.out.cell 0;have c1:=be.out.cell 1;have c2:=be.out.cell 2;have c3:=be.out.cell 3;simp only[cD,cK,cT,c7]at c0 c1 c2 c3;have aZ:=be.out.cx.ci;obtain⟨rc,cC⟩:∃rc:Array ag,rc=cD nr (ak oc cs.length cc) ⟨aN,aP⟩:=⟨_,J⟩;obtain⟨q0,q1,q2,q3,g0,g1,g2,g3⟩:=Gn aZ;go_wp2;rw[Fq aZ,<-DI nr (ak oc cs.length cc) ⟨aN,aP⟩,<-cC];refine ba (v:=az #[aw rc,aH false]) (xu J _ _ w.heap.size rc _ (by rw[cC];rfl) J J (aV _ _ _ _ _ _ aZ)) J ⟨?_,(be.out.j' _).1⟩;rw[HR.out,cC];exact⟨_,_,_,_,_,abO,jZ,J⟩
          |some wy=>
           obtain⟨⟨a6,op,v,mm,gl,⟨ip,cV,lo,hh⟩⟩,n2⟩:=wy;obtain⟨acl,ae3,R7,zJ⟩:=Q7 xr;rw[M8.out]at R7;have Ox:=aa zJ;unfold jo bm;simp only;obtain⟨eq,d8,dh,dD,dz⟩:=KA;obtain⟨BX,R6⟩:∃o:Obj,o= .cells #[I R a6,I R op,I ah v,I ah mm,ad gl,I aj ip,I R cV,I R lo,I R hh] 129:=⟨_,J⟩;have be:=aa (fw.out.au (ai Z1 (.cells #[I R a6,I R op,I ah v,I ah mm,ad gl,I aj ip,I R cV,I R lo,I R hh] 129)));have c1:=be.out.cell 1;simp only[cD,cK,cT,c7]at c1;have n20:¬(n2:Int)=0:=by omega
           obtain⟨s_,dA⟩:=af (if c=1+n2 then off+k else off+k+(1+n2));obtain⟨m2,B0⟩:=af (m'+1-(1+n2));obtain⟨vd,Ho⟩:=af (c-(1+n2));have akv:∀W,(pp 22 (ak (U ⟨b,off+k,ab⟩) (m'+1) c) (U (I R (1+(n2:Int)))) ab ab).run ae W= .ok (ak (U ⟨b,s_,ab⟩) m2 vd) W:=fun W=>by rw[Gd b (off+k) (m'+1) c (1+n2) (1+(n2:Int)) (by omega) (by omega) Fx W,<-dA,<-B0,<-Ho]
           have aeV:R.wrap (1+(n2:Int))=1+(n2:Int):=by rw[jP];omega
           have j4:=aa (show(0<m2->s_=off+(k+1+n2))/\k+1+n2+m2=bu/\m2<=vd/\vd<=maxLen from⟨fun h0=>by rw[dA,if_neg (by omega)];omega,by omega,by omega,by omega⟩);have Cr:m2<m'+1:=by omega
           have GA:=aa (show fq ws.length true (ws.drop (n+1))=(fq m2 (cs++[(⟨a6,op,v,mm,gl,⟨ip,cV,lo,hh⟩⟩:CD)]).isEmpty (ws.drop (k+1+n2))).map ((cs++[(⟨a6,op,v,mm,gl,⟨ip,cV,lo,hh⟩⟩:CD)])++·)by rw[HD.out,HY.out,<-uK.out,Wf ue.out xr,uK.out,List.drop_drop,K5 m' m2 false _ (by rw[pd,<-HN.out];omega) (by rw[pd,<-HN.out];omega),show(cs++[(⟨a6,op,v,mm,gl,⟨ip,cV,lo,hh⟩⟩:CD)]).isEmpty=false by simp,Option.map_map];congr 1;funext l;simp);have GJ:=aa (show∀al∈cs++[(⟨a6,op,v,mm,gl,⟨ip,cV,lo,hh⟩⟩:CD)],jJ al from fun al hy=>by
            rcases jC.1 hy with h|h;.exact kz.out al h
            .rw[jB]at h;rw[h];exact Ox.out);have Cc:=aa (show(cs++[(⟨a6,op,v,mm,gl,⟨ip,cV,lo,hh⟩⟩:CD)]).length<=k+1+n2 by have:=ff.out;rw[cl,gH];omega);have ahb:cs.length<=9001:=by have:=ff.out;omega
           have Ob:=be.out.cx.lt;rw[bA]at Ob;clear dA B0 Ho Do xr ue uK M8 zJ BR Ee qo e1 e2 mt;go_wp2_with(first|(refine C3 _ (by rfl) _ _ _ (by rfl) (r5+1) 129 eq _ 9 80 underlying52 d8 dh dD dz J (by omega) (ak oc cs.length cc) cs.length (gO cs) (by rfl) (be.out.cW.alloc _) ⟨Z1.heap.size+1,0,ab⟩ 1 1 [I R a6,I R op,I ah v,I ah mm,ad gl,I aj ip,I R cV,I R lo,I R hh] (by rfl) (by rfl) (lS (cs:=#[I R a6,I R op,I ah v,I ah mm,ad gl,I aj ip,I R cV,I R lo,I R hh]) (t:=129) (fr:=(0,0)) (by have h:=a7 (Z1.alloc (.cells #[I R a6,I R op,I ah v,I ah mm,ad gl,I aj ip,I R cV,I R lo,I R hh] 129)) (.cells #[I R a6,I R op,I ah v,I ah mm,ad gl,I aj ip,I R cV,I R lo,I R hh] 129);rwa[bA]at h)) (by simp[fG]) (by omega) (by simp only[maxLen];omega) (by omega) (by rw[bA,bA];omega) (Z1.heap.size+2) (by simp) ?_;intro gg bS w2 du bU bE d6;have HW:=aa (be.out.cx.grown _ bU (fun k z=>(be.out.cW.lt k z).1));have HO:=aa du;have jT:w2.cell? ⟨r5,1,ab⟩=U (ak oc cs.length cc):=aT _ _ 1 _ _ _ HW.out.row;have j7:w2.frozen? ⟨r5,1,ab⟩=false:=cy _ _ 1 _ _ HW.out.row;clear du bU bE d6));have dC:=aa (UX.Zf (mZ:=cs++[⟨a6,op,v,mm,gl,⟨ip,cV,lo,hh⟩⟩]) (sv':=ak (U ⟨gg,0,ab⟩) (cs.length+1) bS) HW.out (by rw[cl,gH,R2];exact HO.out));clear jT j7 HW HO be c1;go_wp2;go_round;case rel=>exact⟨k+1+n2,m2,vd,s_,_,_,J,j4,dC,GA,GJ,Cc⟩
           case measure=>simp only[RC];omega
end Go.Proofs.YtefdakbahplnbaaGreatDoor
