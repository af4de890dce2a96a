/- New. -/
import Derived.Test.YtefdakbahplnbaaGreatDoorK27
import Derived.Test.YtefdakbahplnbaaGreatDoorK28
open Go.Proofs.Tryz
open Go renaming Calls->ap,Value->ag,World->ac
open Go.IntKind renaming i64->R,u32->aj
open Go.Value renaming int->I,pointer->av,slice->ak,string->ad
open List renaming getElem?_cons_succ->c7,getElem?_cons_zero->cT,getElem?_toArray->cK
open Option renaming none->ab,some->U
namespace Go.Proofs.YtefdakbahplnbaaGreatDoor
open Go.RowKit Mm
theorem SO{p:bj}(h:cM p=0):p.bw.length<=100/\∀r∈p.bw,r.bq.length<=100:=by
 have L:=(M1 h).2;unfold cM at h;refine⟨?_,fun r hm=>?_⟩
 .split at h;.omega
  .omega
 .have q:=L r hm;unfold g_ at q;split at q;.omega
  .split at q;.omega
   .omega
structure NX(p:bj)(g O:Nat)(P:PV)(w w':ac):Prop where
 iv:P.p=p
 bI:WX g O P kJ (ak ab 0 0) w'
 below:Below w.heap.size w w'
 akr:P.cF<=g/\P.cF<=O/\w.heap.size<=P.cF
 pin:∀V:ac,(∀k,w.heap.size<=k->k<P.cF->V.heap[k]?=w'.heap[k]?)->P.cF<=V.heap.size->fc P.oa P.cap P.p V
 g:w.heap.size<=g
 m:w.heap.size<=O
theorem NX.bk{p:bj}{ob:Option Addr}{w w2 w3:ac}{O:Nat}(c_:Below w.heap.size w w2)(hI:fc ob p.bw.length p w2)(hP:M7 w.heap.size ob p.bw.length p w2)(hgm:O=w2.heap.size)(xO:Below w2.heap.size w2 w3)(hM:fp O wY w3):NX p w3.heap.size O ⟨p,ob,p.bw.length,w2.heap.size⟩ w (w3.alloc (.cells (VA 92 (mE ⟨p,ob,p.bw.length,w2.heap.size⟩ O (fun _=>fJ 0) (ak ab 0 0))) 116)):=by
 have pK:O<w3.heap.size:=(Array.getElem?_eq_some_iff.1 hM).1;have hb:=ai w3 (.cells (VA 92 (mE ⟨p,ob,p.bw.length,w2.heap.size⟩ O (fun _=>fJ 0) (ak ab 0 0))) 116);refine⟨J,⟨heap_alloc_new _ _,hM.au hb,World.ownsRow_nil _ _ _ _,by omega,fun k z=>(by cases z),?_,fun V hV F=>?_⟩,ax (ax c_ xO) hb,⟨xO.size,by rw[hgm];exact Nat.le_refl _,c_.size⟩,fun V hV F=>hP V (fun k q h2=>(hV k q h2).trans ((hb.block k (Nat.lt_of_lt_of_le h2 xO.size)).trans (xO.block k h2))) F,?_,?_⟩;.show w2.heap.size<=_;exact Nat.le_trans xO.size hb.size
 .refine hI.heap (fun k z=>(hV k z ?_ ?_ (fun e=>by cases e)).trans ((hb.block k ?_).trans (xO.block k z))) F;.have:=xO.size;omega
  .omega
  .have:=xO.size;omega
 .exact Nat.le_trans c_.size xO.size
 .rw[hgm];exact c_.size
set_option maxHeartbeats 2000000 in set_option maxRecDepth 20000 in theorem ao2(p:bj)(hp:cM p=0)(oa:Option Addr)(cap:Nat)(w:ac)(h:fc oa cap p w):ap Tryz.prog 12 #[ep p oa cap] w fun e w'=>∃g O P,e= .returned (.tuple #[av (U ⟨g,0,ab⟩), .nilIface])/\NX p g O P w w':=by have G:=KJ p oa cap (w.alloc (.cells (iW (ak oa p.bw.length cap) p.bg) 32)) (h.au (ai w _));rw[hp,kD]at G;have HP:=fun X(hX:fc oa cap p X)=>akM p (SO hp).1 (SO hp).2 oa cap X hX;have jn:=fun(w2 w3:ac)(ob:Option Addr)(O:Nat)=>NX.bk (p:=p) (ob:=ob) (w:=w) (w2:=w2) (w3:=w3) (O:=O);have HI:=aa (h.au (ai w (.cells (iW (ak oa p.bw.length cap) p.bg) 32)));have nN:=aa (show∀ob,fc ob p.bw.length p=fc ob p.bw.length p from fun _=>J);have w_:=aa (show∀ob dZ,ep p ob dZ= .agg #[ak ob p.bw.length dZ,I R p.bg.aF,I R p.bg.aU]from fun _ _=>J);rw[w_.out];rw[w_.out]at G;simp only[w_.out]at HP;unfold iW at G HI;obtain⟨B,N⟩:=af p;obtain⟨n,u⟩:=af p.bw.length;obtain⟨aN,uV⟩:=af p.bg.aF;obtain⟨aP,u'⟩:=af p.bg.aU;have B_:=aa (show B.bw.length=n/\B.bg.aF=aN/\B.bg.aU=aP by rw[N,u,uV,u'];exact⟨J,J,J⟩);rw[<-N]at jn;simp only[B_.out.1]at jn;simp only[<-u,<-uV,<-u']at G HP HI;rw[<-N,B_.out.1,B_.out.2.1,B_.out.2.2];obtain⟨V,hV,dp,jt,iM⟩:=eN w #[ak oa n cap,I R aN,I R aP] 32;have c0:=iM 0;have c1:=iM 1;have c2:=iM 2;simp only[cK,cT,c7]at c0 c1 c2;rw[<-hV]at G HI;have HQ:=aa N;clear h N u uV u' iM jt w_ nN hp;go_enter func12,ntmps12;go_wp2_with fail;rw[<-hV];refine G.mono ?_;rintro e Y⟨rfl,hY⟩;have S:=aa (ax dp hY);have V9:=aa (HI.out.au hY);replace c0:=ao hY c0;replace c1:=ao hY c1;replace c2:=ao hY c2;clear hY hV dp G HI;go_wp2_with fail;refine(HP Y V9.out).mono ?_;rintro e aK⟨⟨ob,rfl,hIZ,hPZ⟩,hZ⟩;have HPZ:=aa (show M7 w.heap.size ob n ⟨p.bw,p.bg⟩ aK from fun V hV F=>hPZ V (fun k q h2=>hV k (Nat.le_trans S.out.size q) h2) F);have ug:=aa (ax S.out hZ);have HIZ:=aa hIZ;clear hZ c0 c1 c2 hIZ hPZ HP V9;go_wp2_with fail;refine(ag2 aK).mono ?_;rintro e cv⟨rfl,hU,hM⟩;have HW:=aa (jn aK cv ob aK.heap.size ug.out (by rw[HQ.out];exact HIZ.out) (by rw[HQ.out];exact HPZ.out) J hU hM);obtain⟨zt,fC⟩:=af (VA 92 (mE ⟨B,ob,n,aK.heap.size⟩ aK.heap.size (fun _=>fJ 0) (ak ab 0 0)));rw[<-fC]at HW;have da:=aa (show zt=(Array.ofFn (n:=92) fun i=>if(i:Nat)=0 then ak ob n n else if(i:Nat)=1 then I R aN else if(i:Nat)=2 then I R aP else if(i:Nat)=3 then av (U ⟨aK.heap.size,0,ab⟩)else if(i:Nat)<91 then ef (fJ 0) (((i:Nat)-4)%29)else ak ab 0 0)by rw[fC,yV];unfold rH mE;simp only[B_.out.1,B_.out.2.1,B_.out.2.2]);clear fC hU hM jn;have fv:=aa (show(((Tryz.zeroCells116.setIfInBounds 0 (ak ob n n)).setIfInBounds 1 (I R aN)).setIfInBounds 2 (I R aP)).setIfInBounds 3 (av (U ⟨aK.heap.size,0,ab⟩))=zt by rw[da.out];kernel_rfl);go_wp2;go_ret2;refine⟨cv.heap.size,aK.heap.size,⟨B,ob,n,aK.heap.size⟩,J,?_⟩;rw[fv.out];exact HW.out
theorem BD{g:Nat}{P:PV}{d:bC}{E:Nat->ag}{y:ag}{W:ac}(n:Nat)(u:n<3)(aU:Int)(h:DX g P d E y W)(cQ:d.aX.length<=1000000)(im:yC (d.T n)):ap Tryz.prog 112 #[av (U ⟨g,0,ab⟩),I R n,I R 2,I R aU, .agg #[ad ⟨#[]⟩,I aj 0,I R 0,ad ⟨#[]⟩,I aj 0,I R 0,ad ⟨#[]⟩,I aj 0,I R 0,ad ⟨#[]⟩,I aj 0,I R 0]] W (kw g P (gf n 2 aU cb d) E y W):=OW n u 2 aU cb h cQ im
theorem amM{g:Nat}{P:PV}{d:bC}{E:Nat->ag}{y:ag}{W:ac}(n:Nat)(u:n<3)(h:DX g P d E y W)(cQ:d.aX.length<=1000000)(im:yC (d.T n)):ap Tryz.prog 112 #[av (U ⟨g,0,ab⟩),I R n,I R 3,I R 0, .agg #[ad ⟨#[]⟩,I aj 0,I R 0,ad ⟨#[]⟩,I aj 0,I R 0,ad ⟨#[]⟩,I aj 0,I R 0,ad ⟨#[]⟩,I aj 0,I R 0]] W (kw g P (gf n 3 0 cb d) E y W):=OW n u 3 0 cb h cQ im
theorem U'{g:Nat}{P:PV}{d:bC}{E:Nat->ag}{y:ag}{W:ac}(n:Nat)(u:n<3)(a:bG)(ha:dl a=0)(next:Nat)(h:DX g P d E y W)(cQ:d.aX.length<=1000000)(im:yC (d.T n)):ap Tryz.prog 80 #[av (U ⟨g,0,ab⟩),I R n,fe a,I R next] W (kw g P (tE n a next d) E y W):=by
 have j1:(0:Int)<=n:=by omega
 have j2:(n:Int)<3:=by omega
 unfold fe;obtain⟨V,hV,dp,jt,iM⟩:=eN W #[I R a.aF,I R a.aU] 30;have c0:=iM 0;have c1:=iM 1;simp only[cK,cT,c7]at c0 c1;have hg:=h.gh;have HX:=aa (h.au dp);have lx:=aa (bi.bk (g:=g) E y dp);clear iM jt;rcases vu ha with rfl|rfl|⟨k,dY,gG,rfl⟩;.have HS:=aa ((h.sk n next u).au (ai _ (.cells #[I R 1,I R 0] 30)));have cp:=HX.out.phase n u;have Cp:=HX.out.b5 (783+n*31);have HD:=aa (show tE n ⟨1,0⟩ next d=d.put n {d.T n with phase:=next}from J);simp only at hV c0 c1⊢;rw[HD.out];subst hV;clear h;go_enter func80,ntmps80;go_wp2;go_end0;exact⟨J,E,y,HS.out,(bi.set E y _ _ _).trans (bi.bk E y (ai _ _))⟩
 .have HE:=amM n u HX.out cQ im;have HD:=aa (show tE n ⟨3,0⟩ next d=gf n 3 0 cb d from J);simp only at hV c0 c1⊢;rw[HD.out];clear h im;go_enter func80,ntmps80;go_wp2_with fail;rw[<-hV];refine HE.mono ?_;rintro e w'⟨rfl,q⟩;go_wp2;go_end0;exact kw.nF lx.out ⟨J,q⟩
 .have HE:=BD n u k HX.out cQ im;have HD:=aa (show tE n ⟨2,(k:Int)⟩ next d=gf n 2 k cb d from J);simp only at hV c0 c1⊢;rw[HD.out];clear h im;go_enter func80,ntmps80;go_wp2_with fail;rw[<-hV];refine HE.mono ?_;rintro e w'⟨rfl,q⟩;go_wp2;go_end0;exact kw.nF lx.out ⟨J,q⟩
end Go.Proofs.YtefdakbahplnbaaGreatDoor
