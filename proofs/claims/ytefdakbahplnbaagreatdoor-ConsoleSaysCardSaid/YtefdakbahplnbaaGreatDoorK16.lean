/- policy.Decide. -/
import Derived.Test.YtefdakbahplnbaaGreatDoorK15
import Derived.Test.YtefdakbahplnbaaGreatDoorK11
open Go.Proofs.Tryz
open ByteArray renaming empty->fH
open Go renaming below_regrown->cN,bodyPost_ret->ba,cell_regrown->aJ,setRow_heap->aV,wpList_store_row->bK,wpQuiet_nil->e6
open Go.IntKind renaming i64->R,u32->aj,u64->ah
open Go.Value renaming agg->aw,int->I,slice->ak,string->ad,tuple->az
open List renaming append_assoc->y8,append_nil->ry,dropLast_concat->TU,getD_eq_getElem?_getD->cI,getElem?_cons_succ->c7,getElem?_cons_zero->cT,getElem?_eq_getElem->cq,getElem?_toArray->cK,getElem_mem->vH,length_append->cl,length_singleton->gH,mem_append->jC,mem_cons_of_mem->vA,mem_cons_self->tP,mem_map->tU,mem_singleton->jB,nodup_append->apa,take_add_one->sH,take_length->sE
open Option renaming none->ab,some->U
open Option.some renaming inj->dG
open UInt8 renaming ofNat->bB,toNat->tO
namespace Go.Proofs.YtefdakbahplnbaaGreatDoor
open Go.RowKit Go.Sort
theorem Yb(w:World)(x al aI ay:Array Value)(tx ty Eb SP:TypeId):∃V,V=(((w.alloc (.cells x tx)).alloc (.cells al ty)).alloc (.cells aI Eb)).alloc (.cells ay SP)/\Below w.heap.size w V/\V.heap.size=w.heap.size+4/\(∀j:Nat,V.cell? ⟨w.heap.size,j,ab⟩=x[j]?)/\(∀j:Nat,V.cell? ⟨w.heap.size+1,j,ab⟩=al[j]?)/\(∀j:Nat,V.cell? ⟨w.heap.size+2,j,ab⟩=aI[j]?)/\V.heap[w.heap.size+3]?=U (.cells ay SP (0,0)):=by
 obtain⟨cv,hU,hb,F,q,h2,h3⟩:=Qo w x al aI tx ty Eb;refine⟨cv.alloc (.cells ay SP),by rw[hU],ax hb (ai _ _),by rw[World.size_alloc,F],fun j=>?_,fun j=>?_,fun j=>?_,?_⟩;.rw[<-q j];exact(kL (ai cv _)).1 _ j (by omega)
 .rw[<-h2 j];exact(kL (ai cv _)).1 _ j (by omega)
 .rw[(kL (ai cv _)).1 _ j (by omega)];exact cell_of_row _ _ j _ _ _ h3
 .rw[<-F];exact heap_alloc_new _ _
set_option maxHeartbeats 2000000 in set_option maxRecDepth 100000 in theorem al9(p:bj)(oa:Option Addr)(cap:Nat)(k:KL)(z:hc k)(v:VS)(hv:si v)(w:World)(hp:fc oa cap p w):Calls Tryz.prog 190 #[ep p oa cap,cR k,qv v] w fun e w'=>e= .returned (Bl p k v)/\Below w.heap.size w w':=by
 obtain⟨n,u⟩:=af p.bw.length;obtain⟨V,hV,hB,jt,hx,hy,hu,hz⟩:=Yb w #[ak oa p.bw.length cap,I R p.bg.aF,I R p.bg.aU] (bX k) (eU v) #[I R 0,I R 0] 32 68 73 30;have pl:=KJ p oa cap V (hp.au hB);have G:=aa (zg hp n u);have Dl:n<=9223372036854775807:=by have q:=hp.le;have h2:=hp.cap;unfold maxLen at h2;omega
 have dm:=hp.ok;clear hp;unfold bX at hV hy;unfold eU at hV hu;by_cases M:cM p=0
 .have bh:=BW M dm;have HV:=aa (show Bl p k v=az #[fe (ir p k v), .nilIface]by unfold Bl;rw[if_pos M,M];rfl);rw[M,kD]at pl;have qj:=aa bh.bw;have eL:n<=12:=by have:=bh.qO;omega
  have gN:=fun r L oa cap X H=>XF r L oa cap k z X H;have qJ:=fun r L oa cap X H=>aeR r L oa cap v hv X H;clear M dm bh z hv;obtain⟨rs,⟨aN,aP⟩⟩:=p;have HL:=aa (show∀i,i<n->∃c,rs[i]?=U c/\rs.drop i=c::rs.drop (i+1)from fun i h=>N0 (by simp only at u;omega));unfold ep cR bX qv eU at*;simp only at*;rw[<-u]at hV hx pl⊢;have HN:=aa u;clear u;obtain⟨dv,kn,b_,b1,b2,b3⟩:=k;obtain⟨⟨Gg,G4,Je⟩,⟨Jf,Im,Ij⟩,⟨II,GZ,Jm⟩,⟨Ig,Gr,Iq⟩⟩:=v;simp only at*;have x0:=hx 0;have x1:=hx 1;have x2:=hx 2;have y0:=hy 0;have y1:=hy 1;have y2:=hy 2;have y3:=hy 3;have y4:=hy 4;have y5:=hy 5;have KZ:=hu 0;have NN:=hu 1;have No:=hu 2;have Nk:=hu 3;have MM:=hu 4;have Lb:=hu 5;have Ky:=hu 6;have L9:=hu 7;have MA:=hu 8;have J2:=hu 9;have Kp:=hu 10;have LJ:=hu 11;simp only[cK,cT,c7]at x0 x1 x2 y0 y1 y2 y3 y4 y5 KZ NN No Nk MM Lb Ky L9 MA J2 Kp LJ;clear hx hy hu;by_cases ha:dv=3221225534
  .have HJ:=aa (show ir ⟨rs,⟨aN,aP⟩⟩ ⟨dv,kn,b_,b1,b2,b3⟩ ⟨⟨Gg,G4,Je⟩,⟨Jf,Im,Ij⟩,⟨II,GZ,Jm⟩,⟨Ig,Gr,Iq⟩⟩=gZ ⟨dv,kn,b_,b1,b2,b3⟩ ⟨⟨Gg,G4,Je⟩,⟨Jf,Im,Ij⟩,⟨II,GZ,Jm⟩,⟨Ig,Gr,Iq⟩⟩ ⟨aN,aP⟩ rs from if_pos ha);have mx:(dv:Int)=3221225534:=by omega
   rw[mx]at hV y0⊢;have ln:=aa mx;clear ha mx;obtain⟨pB,eQ⟩:∃k:KL,k=⟨dv,kn,b_,b1,b2,b3⟩:=⟨_,J⟩;obtain⟨vv,eE⟩:∃v:VS,v=⟨⟨Gg,G4,Je⟩,⟨Jf,Im,Ij⟩,⟨II,GZ,Jm⟩,⟨Ig,Gr,Iq⟩⟩:=⟨_,J⟩;rw[<-eQ,<-eE]at HJ HV⊢;have Bn:=aa eQ;have p9:=aa eE;clear eQ eE;go_enter func190,ntmps190;go_wp2_with(go_at_call 35;rw[<-hV];clear hV;refine pl.mono ?_;rintro e X⟨rfl,hX⟩;have X0:=ao hX x0;have X1:=ao hX x1;have X2:=ao hX x2;have Y0:=ao hX y0;refine Hid.out ?_);refine aa ?_;go_wp2;go_loopw[23](fun aL w'=>∃i:Nat,i<=n/\aL=I R i/\Hid (gZ pB vv ⟨aN,aP⟩ rs=gZ pB vv ⟨aN,aP⟩ (rs.drop i))/\Hid (Below X.heap.size X w'))(fun aL _=>n-(intOf aL).toNat);case atStart=>exact⟨0,by omega,J,aa J,aa (Below.refl _ _)⟩
   case round=>
    obtain⟨i,hi,rfl,HG,S⟩:=hrel;have HW:=aa (ax (ax hB hX) S.out);have kB:=aa (ax hX S.out);have vo:w.heap.size+3<V.heap.size:=by omega
    have dg:wr.heap[w.heap.size+3]?=U (.cells #[I R 0,I R 0] 30 (0,0)):=(kB.out.block _ vo).trans hz;by_cases am:i<n
    .obtain⟨c,cH,q9⟩:=HL.out i am;obtain⟨b,off,rfl,ds,HA⟩:=G.out (by omega);obtain⟨dj,cc,cZ⟩:=HA.out i c cH;have hR:=cZ.au ds HW.out;clear cZ;have pu:=qj.out c (List.mem_of_getElem? cH);have c4:=gN c pu dj cc;have oF:=qJ c pu dj cc;have kQ:=aa hR.bq;have cL:=aa (show gZ pB vv ⟨aN,aP⟩ rs=if mJ c pB&&wE c vv then c.dO else gZ pB vv ⟨aN,aP⟩ (rs.drop (i+1))by rw[HG.out,q9,gZ]);rw[<-Bn.out]at c4;rw[<-p9.out]at oF;obtain⟨uP,rP⟩:=af (mJ c pB);obtain⟨uB,qE⟩:=af (wE c vv);rw[<-rP]at c4 cL;rw[<-qE]at oF cL;obtain⟨p0,p1,p2,p3,_,_,_,_⟩:=hR;clear rP qE pu cH q9 HG;obtain⟨nr,cs,⟨rk,re⟩⟩:=c;unfold lW at c4 oF;simp only at p0 p1 p2 p3 c4 oF cL kQ;simp only[ln.out]at c4;have g0:=aJ (ao S.out X0);have z0:=aJ (ao kB.out y0);have z1:=aJ (ao kB.out y1);have z2:=aJ (ao kB.out y2);have z3:=aJ (ao kB.out y3);have z4:=aJ (ao kB.out y4);have z5:=aJ (ao kB.out y5);have Gp:=aJ (ao kB.out KZ);have w1:=aJ (ao kB.out NN);have w2:=aJ (ao kB.out No);have w3:=aJ (ao kB.out Nk);have EB:=aJ (ao kB.out MM);have Pq:=aJ (ao kB.out Lb);have SN:=aJ (ao kB.out Ky);have yj:=aJ (ao kB.out L9);have BH:=aJ (ao kB.out MA);have Sg:=aJ (ao kB.out J2);have SL:=aJ (ao kB.out Kp);have Ou:=aJ (ao kB.out LJ);have r0:=aJ p0;have r1:=aJ p1;have r2:=aJ p2;have r3:=aJ p3;have kk:∀d os,Calls Tryz.prog 141 #[aw #[I R nr,ak dj cs.length cc,I R rk,I R re],aw #[I aj 3221225534,I aj kn,I ah b_,I ah b1,I ah b2,I ah b3]] (grow (redrawn wr d) os) fun e bF=>e= .returned (.bool uP)/\∃p:Regrown,bF=grow (redrawn wr p.d) p.os:=fun d os=>Calls.regrown_of (c4 _ (kQ.out.au (cN _ _ _)));have zr:∀d os,Calls Tryz.prog 229 #[aw #[I R nr,ak dj cs.length cc,I R rk,I R re],aw #[ad Gg,I aj G4,I R Je,ad Jf,I aj Im,I R Ij,ad II,I aj GZ,I R Jm,ad Ig,I aj Gr,I R Iq]] (grow (redrawn wr d) os) fun e bF=>e= .returned (.bool uB)/\∃p:Regrown,bF=grow (redrawn wr p.d) p.os:=fun d os=>Calls.regrown_of (oF _ (kQ.out.au (cN _ _ _)));have i5:(0:Int)<=i:=by omega
     have i6:(i:Int)<n:=by omega
     clear c4 oF y0 y1 y2 y3 y4 y5 KZ NN No Nk MM Lb Ky L9 MA J2 Kp LJ x0 x1 x2 X1 X2 Y0 p0 p1;go_wp2;refine wp_region_quiet_below (by kernel_rfl) (by kernel_rfl) ?_;cases uP with
      |false=>
       rw[if_neg (by simp)]at cL;repeat(go_big_quiet_step(first|(go_at_call 141;exact kk _ _)|(go_at_call 229;exact zr _ _)))
       refine e6 ?_;intro _ bT;obtain⟨⟨dq,bJ⟩,bY⟩:=bT;subst bY;clear Gp w1 w2 w3 EB Pq SN yj BH Sg SL Ou z0 z1 z2 z3 z4 z5 kk zr;go_wp2;go_round;case rel=>exact⟨i+1,by omega,by go_num,cL,aa (ax S.out (cN _ _ _))⟩
       case measure=>simp[intOf];omega
      |true=>
       cases uB with
        |false=>
         rw[if_neg (by simp)]at cL;repeat(go_big_quiet_step(first|(go_at_call 141;exact kk _ _)|(go_at_call 229;exact zr _ _)))
         refine e6 ?_;intro _ bT;obtain⟨⟨dq,bJ⟩,bY⟩:=bT;subst bY;clear Gp w1 w2 w3 EB Pq SN yj BH Sg SL Ou z0 z1 z2 z3 z4 z5 kk zr;go_wp2;go_round;case rel=>exact⟨i+1,by omega,by go_num,cL,aa (ax S.out (cN _ _ _))⟩
         case measure=>simp[intOf];omega
        |true=>
         rw[if_pos (by simp)]at cL;repeat(go_big_quiet_step(first|(go_at_call 141;exact kk _ _)|(go_at_call 229;exact zr _ _)))
         refine e6 ?_;intro _ bT;obtain⟨⟨dq,bJ⟩,bY⟩:=bT;subst bY;clear Gp w1 w2 w3 EB Pq SN yj BH Sg SL Ou z0 z1 z2 z3 z4 z5 kk zr;have hr3:=((cN wr dq bJ).block _ (Array.getElem?_eq_some_iff.1 dg).1).trans dg;go_wp2_with(refine bK J 30 _ _ J (w.heap.size+3) #[I R rk,I R re] J J 30 _ hr3 iP J (mA _ _) ?_);refine ba (v:=az #[aw #[I R rk,I R re], .nilIface]) (sQ J _ _ (w.heap.size+3) #[I R rk,I R re] _ J J J (aV _ _ _ _ _ _ hr3)) J ⟨?_,below_setRow (ax HW.out (cN _ _ _)) (by omega) _⟩;rw[HV.out,HJ.out,cL.out];rfl
    .obtain rfl:i=n:=by omega
     have cL:=aa (show gZ pB vv ⟨aN,aP⟩ rs=⟨aN,aP⟩by rw[HG.out,List.drop_eq_nil_of_le (by rw[HN.out];exact Nat.le_refl _),gZ]);have g1:=ao S.out X1;have g2:=ao S.out X2;go_wp2_with(refine bK J 30 _ _ J (w.heap.size+3) #[I R aN,I R aP] J J 30 _ dg iP J (mA _ _) ?_);refine ba (v:=az #[aw #[I R aN,I R aP], .nilIface]) (sQ J _ _ (w.heap.size+3) #[I R aN,I R aP] _ J J J (aV _ _ _ _ _ _ dg)) J ⟨?_,below_setRow HW.out (by omega) _⟩;rw[HV.out,HJ.out,cL.out];rfl
  .have HJ:=aa (show ir ⟨rs,⟨aN,aP⟩⟩ ⟨dv,kn,b_,b1,b2,b3⟩ ⟨⟨Gg,G4,Je⟩,⟨Jf,Im,Ij⟩,⟨II,GZ,Jm⟩,⟨Ig,Gr,Iq⟩⟩=⟨3,0⟩from if_neg ha);have mx:¬(dv:Int)=3221225534:=by omega
   clear ha KZ NN No Nk MM Lb Ky L9 MA J2 Kp LJ;go_enter func190,ntmps190;go_wp2_with(first|(go_at_call 35;rw[<-hV];clear hV;refine pl.mono ?_;rintro e X⟨rfl,hX⟩;have Y0:=ao hX y0;have dg:X.heap[w.heap.size+3]?=U (.cells #[I R 0,I R 0] 30 (0,0)):=(hX.block _ (by omega)).trans hz)|(refine bK J 30 _ _ J (w.heap.size+3) #[I R 3,I R 0] J J 30 _ dg iP J (mA _ _) ?_));refine ba (v:=az #[aw #[I R 3,I R 0], .nilIface]) (sQ J _ _ (w.heap.size+3) #[I R 3,I R 0] _ J J J (aV _ _ _ _ _ _ dg)) J ⟨?_,below_setRow (ax hB hX) (by omega) _⟩;rw[HV.out,HJ.out];rfl
 .have HV:=aa (show Bl p k v=az #[fe ⟨0,0⟩, .iface 43 (I R (cM p:Nat))]by unfold Bl;rw[if_neg M,iL M]);rw[iL M]at pl;clear M dm z hv G;unfold ep cR bX qv eU at*;have x0:=hx 0;have x1:=hx 1;have x2:=hx 2;simp only[cK,cT,c7]at x0 x1 x2;clear hx hy hu;go_enter func190,ntmps190;go_wp2_with(first|(go_at_call 35;rw[<-hV];clear hV;refine pl.mono ?_;rintro e X⟨rfl,hX⟩;have dg:X.heap[w.heap.size+3]?=U (.cells #[I R 0,I R 0] 30 (0,0)):=(hX.block _ (by omega)).trans hz)|(refine bK J 30 _ _ J (w.heap.size+3) #[I R 0,I R 0] J J 30 _ dg iP J (mA _ _) ?_));refine ba (v:=az #[aw #[I R 0,I R 0], .iface 43 (I R (cM p:Nat))]) (sQ J _ _ (w.heap.size+3) #[I R 0,I R 0] _ J J J (aV _ _ _ _ _ _ dg)) J ⟨?_,below_setRow (ax hB hX) (by omega) _⟩;rw[HV.out];rfl
end Go.Proofs.YtefdakbahplnbaaGreatDoor
namespace Go.Proofs.YtefdakbahplnbaaGreatDoor
theorem D9{a:bG}(h:dl a=0):a.aF≠4:=by rcases vu h with rfl|rfl|⟨n,_,_,rfl⟩<;>simp
theorem af2{c:CD}(h:mC c=true)(v:VS):tG v c=true:=by
 unfold mC fA at h;unfold tG;split at h;.cases h
 .rename_i h8;rw[if_neg h8];split at h;.cases h
  .rename_i h9;rw[if_neg h9]
theorem alo{r:RL}(h:nx r=false)(v:VS):wE r v=true:=by unfold wE;rw[List.all_eq_true];intro c H;apply af2;unfold nx at h;rw[List.any_eq_false]at h;have:=h c H;simpa using this
theorem aaS(k:KL)(v:VS)(bg:bG)(he:dl bg=0):∀rs:List RL,(∀r∈rs,dl r.dO=0)->(gZ k v bg rs).aF≠4
 |[],_=>D9 he
 |r::t,h=>by
  rw[gZ];split;.exact D9 (h r (tP ..))
  .exact aaS k v bg he t fun x hx=>h x (vA _ hx)
theorem WO(k:KL)(v:VS)(bg:bG)(he:dl bg=0):∀(rs:List RL)(i:Nat),(∀r∈rs,dl r.dO=0)->((fN k bg rs i).1.aF=4/\i<=(fN k bg rs i).2/\(fN k bg rs i).2<i+rs.length/\gZ k v bg (rs.drop ((fN k bg rs i).2-i))=gZ k v bg rs)\/((fN k bg rs i).1.aF≠4/\(fN k bg rs i).2=0/\gZ k v bg rs=(fN k bg rs i).1)
 |[],i,_=> .inr ⟨D9 he,J,J⟩
 |r::t,i,h=>by
  rw[fN];by_cases M:mJ r k=true
  .rw[if_pos M];cases hd:nx r with
    |true=>exact .inl ⟨J,Nat.le_refl _,by simp,by simp⟩
    |false=>refine .inr ⟨D9 (h r (tP ..)),J,?_⟩;rw[gZ,M,alo hd];rfl
  .rw[if_neg M];have hd:gZ k v bg (r::t)=gZ k v bg t:=by rw[gZ,Bool.eq_false_iff.2 M];rfl
   rw[hd];rcases WO k v bg he t (i+1) (fun x hx=>h x (vA _ hx))with⟨a,b,c,d⟩|⟨a,b,c⟩;.refine .inl ⟨a,by omega,by rw[List.length_cons];omega,?_⟩;rw[show(fN k bg t (i+1)).2-i=((fN k bg t (i+1)).2-(i+1))+1 by omega,List.drop_succ_cons];exact d
   .exact .inr ⟨a,b,c⟩
theorem ad3{p:bj}(h:l3 p)(k:KL)(v:VS):((eA p k).1.aF=4/\(eA p k).2<p.bw.length/\(ir p k v).aF≠4/\ir ⟨p.bw.drop (eA p k).2,p.bg⟩ k v=ir p k v)\/((eA p k).1.aF≠4/\(eA p k).2=0/\ir p k v=(eA p k).1):=by
 unfold eA ir;by_cases ha:k.ej=3221225534
 .simp only[if_pos ha];have L:∀r∈p.bw,dl r.dO=0:=fun r L=>(h.bw r L).dO;rcases WO k v p.bg h.bg p.bw 0 L with⟨a,_,c,d⟩|⟨a,b,c⟩;.rw[Nat.sub_zero]at d;exact .inl ⟨a,by omega,aaS k v p.bg h.bg p.bw L,d⟩
  .exact .inr ⟨a,b,c⟩
 .simp only[if_neg ha];exact .inr (by simp)
end Go.Proofs.YtefdakbahplnbaaGreatDoor
namespace Go.Proofs.YtefdakbahplnbaaGreatDoor
open Mm
def aO{α:Type}(f:Nat->α)(i:Nat)(x:α):Nat->α:=fun j=>if j=i then x else f j
theorem dN{α:Type}(f:Nat->α)(i:Nat)(x:α):aO f i x i=x:=if_pos J
theorem ed{α:Type}(f:Nat->α){i j:Nat}(x:α)(h:j≠i):aO f i x j=f j:=if_neg h
theorem BI{α:Type}(f:Nat->α)(i:Nat)(x al:α):aO (aO f i x) i al=aO f i al:=by funext j;unfold aO;split<;>rfl
def dE:VL:=⟨fH,0,0⟩
def oC:KL:=⟨0,0,0,0,0,0⟩
structure TH where
 phase:Nat
 call:KL
 args:Nat->Nat
 bV:Nat->Bool
 cU:Nat
 dd:W8
 aG:Nat->VL
def fJ(ph:Nat):TH:=⟨ph,oC,fun _=>0,fun _=>false,0,[],fun _=>dE⟩
def ui(c:KL):TH:=⟨1,c,fk c,fun _=>false,0,[],fun _=>dE⟩
structure EN where
 aF:Nat
 cg:Nat
 call:KL
 aG:VS
 aU:Int
structure WS where
 T:Nat->TH
 mem:MS
 aX:List EN
def eY(f:Nat->VL):VS:=⟨f 0,f 1,f 2,f 3⟩
def cb:VS:=eY fun _=>dE
def WS.put(s:WS)(n:Nat)(t:TH):WS:={s with T:=aO s.T n t}
def kJ:WS:=⟨fun _=>fJ 0,wY,[]⟩
def jk(m:MS)(a:Nat):MS:=if 8<=a/64/\a/64<12/\a%64=0/\m.rd (a/64)=true then pM m (a/64)else m
def k6(t:TH)(m:MS):Nat->MS|0=>m|i+1=>if t.bV i=true then jk (k6 t m i) (t.args i)else k6 t m i
def ec(n aF:Nat)(aU:Int)(v:VS)(s:WS):WS:=⟨aO s.T n (fJ (if aF=3 then 6 else 0)),k6 (s.T n) s.mem 4,s.aX++[⟨aF,n,(s.T n).call,v,aU⟩]⟩
def oW(n:Nat)(a:bG)(next:Nat)(s:WS):WS:=if a.aF=1 then s.put n {s.T n with phase:=next}else if a.aF=2 then ec n 2 a.aU cb s else ec n 3 0 cb s
def bx(nr:Nat):List Nat:=if nr<=8 then(List.range 4).filter fun i=>decide (2<=a1 nr i)else[]
def mG(k:Nat)(l:W8):Option VL:=if k=3 then(gS (bs l)).map fun x=>⟨fH,x.1,x.2⟩else if l.getLast?=U 0 then U ⟨bs l.dropLast,0,0⟩else ab
def ED(k:Nat):Nat:=if k=3 then 22 else 36
def nc(k:Nat)(l:W8):Bool:=if k=3 then l.length==16 else l.getLast?==U 0||decide (40<l.length)
def dP(t:TH):Nat:=(bx t.call.nr).getD t.cU 0
def wA(n:Nat)(l:W8)(s:WS):WS:=let t:=s.T n;let k:=a1 t.call.nr (dP t);if nc k l=true then(match mG k l with|ab=>ec n 2 (ED k:Nat) cb s|U v=>s.put n {t with aG:=aO t.aG (dP t) v,dd:=[],cU:=t.cU+1,phase:=if t.cU+1=(bx t.call.nr).length then 3 else 2})else s.put n {t with dd:=l}
def so(n:Nat)(s:WS):WS:=match ey s.mem (((s.T n).args (dP (s.T n))+(s.T n).dd.length)%18446744073709551616)with|ab=>ec n 2 14 cb s|U b=>wA n ((s.T n).dd++[bB b]) s
def uG(p:bj)(n:Nat)(s:WS):WS:=if(eA p (s.T n).call).1.aF=4 then s.put n {s.T n with phase:=2}else oW n (eA p (s.T n).call).1 5 s
def BK(p:bj)(n:Nat)(s:WS):WS:=oW n (ir p (s.T n).call (eY (s.T n).aG)) 4 s
def gU(k:Nat)(v:VL):W8:=if k=3 then iI v.ip v.aB.toNat else v.bf.data.toList++[0]
def kW(m:MS):Option Nat:=[8,9,10,11].find? fun B=>!m.rd B
def jm(n:Nat):List Nat->WS->WS|[],s=>s.put n {s.T n with phase:=5}|i::r,s=>match kW s.mem with|ab=>ec n 2 12 cb s|U B=>jm n r ⟨aO s.T n {s.T n with args:=aO (s.T n).args i (B*64),bV:=aO (s.T n).bV i true},jI s.mem B (gU (a1 (s.T n).call.nr i) ((s.T n).aG i)),s.aX⟩
def z8(n:Nat)(s:WS):WS:=jm n (bx (s.T n).call.nr) s
def jU(m:MS)(k a:Nat):VL⊕Nat:=if k=2 then(match Mm.aqq (ey m) a 41 0 []with|(0,l)=> .inl ⟨⟨(e5 l).toArray⟩,0,0⟩|(e,_)=> .inr (if e=5 then 14 else 36))else match h1 m a 16 with|ab=> .inr 14|U l=>match gS ⟨(e5 l).toArray⟩with|U x=> .inl ⟨fH,x.1,x.2⟩|ab=> .inr 22
def kp(n:Nat)(s:WS):List Nat->(Nat->VL)->WS|[],v=>ec n 1 0 (eY v) s|i::r,v=>match jU s.mem (a1 (s.T n).call.nr i) ((s.T n).args i)with| .inl x=>kp n s r (aO v i x)| .inr e=>ec n 2 e cb s
def oX(n:Nat)(s:WS):WS:=if 8<(s.T n).call.nr then ec n 2 38 cb s else kp n s (bx (s.T n).call.nr) fun _=>dE
def fb(p:bj)(n:Nat)(s:WS):WS:=match(s.T n).phase with|1=>uG p n s|2=>so n s|3=>BK p n s|4=>z8 n s|5=>oX n s|_=>s
def gA(p:bj)(n:Int)(s:WS):WS×Bool×Nat:=if 0<=n/\n<3 then(if(s.T n.toNat).phase=6 then(s,false,8)else if(s.T n.toNat).phase=0 then(s,false,0)else(fb p n.toNat s,true,0))else(s,false,1)
def iu(n:Int)(c:KL)(s:WS):WS×Nat:=if 0<=n/\n<3 then(if(s.T n.toNat).phase=6 then(s,8)else if(s.T n.toNat).phase=0 then(s.put n.toNat (ui c),0)else(s,7))else(s,1)
def mr(n:Int)(s:WS):Nat:=if 0<=n/\n<3 then(s.T n.toNat).phase else 6
def jG(n:Int)(b:Bool)(m:MS):MS×Nat:=if 0<=n/\n<8 then(px (o2 m n.toNat true) n.toNat b,0)else(m,5)
def jK(n:Int)(m:MS):MS×Nat:=if 0<=n/\n<8/\m.rd n.toNat=true then(pM m n.toNat,0)else(m,5)
open Classical in noncomputable def jw(a:Nat)(l:ByteArray)(m:MS):MS×Nat:=if∀i,i<l.size->qR m (ch a i)then(hJ m a l.data.toList,0)else(m,5)
def rz(k:Nat)(v:VL):Prop:=(k=2/\v.bf.size<=40/\(0:UInt8)∉v.bf.data.toList/\v.ip=0/\v.aB=0)\/(k=3/\v.bf=fH/\v.ip<4294967296/\∃B:Nat,v.aB=B/\B<=65535)
def A7(k:Nat)(l:W8):Prop:=(k=3->l.length<16)/\(k≠3->l.length<=40/\(0:UInt8)∉l)
theorem Od:∀nr,nr<=8->(bx nr).length<=2/\(bx nr).Nodup/\∀i∈bx nr,i<4/\(a1 nr i=2\/a1 nr i=3):=by intro nr h;rcases sf h with rfl|rfl|rfl|rfl|rfl|rfl|rfl|rfl|rfl<;>decide
theorem sj{nr i:Nat}(h:i∈bx nr):nr<=8/\i<4/\(a1 nr i=2\/a1 nr i=3):=by
 by_cases h8:nr<=8;.exact⟨h8,(Od nr h8).2.2 i h⟩
 .unfold bx at h;rw[if_neg h8]at h;cases h
theorem Uh{nr i:Nat}(h8:nr<=8)(hi:i<4)(z:2<=a1 nr i):i∈bx nr:=by unfold bx;rw[if_pos h8,List.mem_filter,List.mem_range];exact⟨hi,by simpa using z⟩
theorem Gz(nr:Nat):(bx nr).length<=2:=by
 by_cases h8:nr<=8;.exact(Od nr h8).1
 .unfold bx;rw[if_neg h8];simp
theorem Lt(nr:Nat):(bx nr).Nodup:=by
 by_cases h8:nr<=8;.exact(Od nr h8).2.1
 .unfold bx;rw[if_neg h8];exact List.nodup_nil
def aa_(p:bj)(t:TH):Prop:=(eA p t.call).1.aF=1/\(∀i,t.bV i=false)/\t.args=fk t.call
def Dv(t:TH)(l:List Nat):Prop:=∀i,(i∈l->rz (a1 t.call.nr i) (t.aG i))/\(i∉l->t.aG i=dE)
structure Uf(p:bj)(t:TH):Prop where
 nr:t.call.nr<=8
 DG:(ir p t.call (eY t.aG)).aF=1
 bV:∀i,t.bV i=true↔i∈bx t.call.nr
 oH:Dv t (bx t.call.nr)
structure yi(p:bj)(t:TH):Prop where
 ph:t.phase<=6
 kl:hc t.call
 aY:∀i,t.args i<18446744073709551616
 off:t.phase=0\/t.phase=6->t=fJ t.phase
 SK:t.phase=1->t=ui t.call
 plain:t.phase≠5->(∀i,t.bV i=false)/\t.args=fk t.call
 zh:2<=t.phase->t.phase<=4->t.call.nr<=8
 GN:t.phase=2->t.cU<(bx t.call.nr).length/\A7 (a1 t.call.nr (dP t)) t.dd
 oH:2<=t.phase->t.phase<=4->Dv t ((bx t.call.nr).take t.cU)
 MN:3<=t.phase->t.phase<=4->t.cU=(bx t.call.nr).length/\t.dd=[]
 DG:t.phase=4->(ir p t.call (eY t.aG)).aF=1
 sr:t.phase=5->aa_ p t\/Uf p t
def Is(m:MS)(B:Nat)(l:W8):Prop:=l.length<=64/\∀j,j<l.length->m.ei (B*64+j)=(l.getD j 0).toNat
structure yz(s:WS):Prop where
 uX:xt s.mem
 cW:∀B,8<=B->B<12->s.mem.rd B=true->∃n i,n<3/\i<4/\(s.T n).bV i=true/\(s.T n).args i=B*64
 held:∀n i,n<3->(s.T n).bV i=true->i<4/\∃B,8<=B/\B<12/\(s.T n).args i=B*64/\s.mem.rd B=true/\Is s.mem B (gU (a1 (s.T n).call.nr i) ((s.T n).aG i))
 I0:∀n i n' i',n<3->n'<3->(s.T n).bV i=true->(s.T n').bV i'=true->(s.T n).args i=(s.T n').args i'->n=n'/\i=i'
structure H2(p:bj)(e:EN):Prop where
 aF:1<=e.aF/\e.aF<=3
 cg:e.cg<3
 kl:hc e.call
 vs:si e.aG
 aU:0<=e.aU/\e.aU<=255
 apF:e.aF=1->(ir p e.call e.aG).aF=1
structure dT(p:bj)(s:WS):Prop where
 cg:∀n,n<3->yi p (s.T n)
 mem:yz s
 aX:∀e∈s.aX,H2 p e
theorem aaR(m:MS)(B x:Nat):(pM m B).ei x=if B*64<=x/\x<B*64+64 then 0 else m.ei x:=by
 unfold pM hJ;simp only[px,o2,Le];split;.unfold td;rw[cI,List.getElem?_replicate];split<;>rfl
 .rfl
theorem anb(m:MS)(B n:Nat):(pM m B).wt n=if n=B then false else m.wt n:=rfl
theorem aly(m:MS)(B n:Nat):(pM m B).rd n=if n=B then false else m.rd n:=rfl
theorem ad_{m:MS}(h:xt m)(B:Nat):xt (pM m B):=⟨fun x=>by
 rw[aaR];split;.omega
 .exact h.bytes x,fun n h8 eL=>by
 rw[anb];split;.rfl
 .exact h.wt n h8 eL⟩
theorem aci(t:TH)(m:MS):∀i,(∀j,t.bV j=true->∃B,8<=B/\B<12/\t.args j=B*64)->(∀B,(k6 t m i).rd B=true↔m.rd B=true/\∀j,j<i->t.bV j=true->t.args j≠B*64)/\(xt m->xt (k6 t m i))/\(∀x,(∀j,j<i->t.bV j=true->t.args j≠x/64*64)->(k6 t m i).ei x=m.ei x)
 |0,_=>⟨fun B=>⟨fun h=>⟨h,fun j hj=>by omega⟩,fun h=>h.1⟩,fun h=>h,fun x _=>J⟩
 |i+1,N=>by
  obtain⟨q,h2,h3⟩:=aci t m i N;unfold k6;by_cases F:t.bV i=true
  .rw[if_pos F];obtain⟨q0,GP,ace,l_⟩:=N i F;unfold jk;rw[l_,Nat.mul_div_cancel _ (by omega:0<64)];by_cases L:(k6 t m i).rd q0=true
   .rw[if_pos ⟨GP,ace,by omega,L⟩];refine⟨fun B=>?_,fun M=>ad_ (h2 M) _,fun x hx=>?_⟩
    .rw[aly];by_cases mH:B=q0
     .rw[if_pos mH];constructor;.intro h;cases h
      .intro h;exact absurd (by rw[l_,mH]) (h.2 i (by omega) F)
     .rw[if_neg mH,q];refine⟨fun h=>⟨h.1,fun j hj CF=>?_⟩,fun h=>⟨h.1,fun j hj=>h.2 j (by omega)⟩⟩;by_cases jz:j=i;.rw[jz,l_];omega
      .exact h.2 j (by omega) CF
    .rw[aaR,if_neg ?_];.exact h3 x fun j hj=>hx j (by omega)
     .have:=hx i (by omega) F;rw[l_]at this;omega
   .rw[if_neg (fun h=>L h.2.2.2)];refine⟨fun B=>?_,h2,fun x hx=>h3 x fun j hj=>hx j (by omega)⟩;rw[q];refine⟨fun h=>⟨h.1,fun j hj CF=>?_⟩,fun h=>⟨h.1,fun j hj=>h.2 j (by omega)⟩⟩;by_cases jz:j=i
    .rw[jz,l_];intro he;have mH:q0=B:=by omega
     refine L ?_;rw[mH,q];exact h
    .exact h.2 j (by omega) CF
  .rw[if_neg F];refine⟨fun B=>?_,h2,fun x hx=>h3 x fun j hj=>hx j (by omega)⟩;rw[q];refine⟨fun h=>⟨h.1,fun j hj CF=>?_⟩,fun h=>⟨h.1,fun j hj=>h.2 j (by omega)⟩⟩;by_cases jz:j=i;.rw[jz]at CF;exact absurd CF F
   .exact h.2 j (by omega) CF
theorem Qn{f:Nat->VL}(h:∀i,i<4->tl (f i)):si (eY f):=⟨h 0 (by omega),h 1 (by omega),h 2 (by omega),h 3 (by omega)⟩
theorem Sj:tl dE:=⟨by unfold dE;simp,by unfold dE;simp,eF (k:=0) (by omega)⟩
theorem afZ:si cb:=Qn fun _ _=>Sj
theorem rz.aks{k:Nat}{v:VL}(h:rz k v):tl v:=by
 rcases h with⟨_,q,_,h3,h4⟩|⟨_,q,h2,B,h3,h4⟩;.exact⟨by omega,by omega,by rw[h4];exact eF (k:=0) (by omega)⟩
 .exact⟨by rw[q];simp,h2,by rw[h3];exact eF (by omega)⟩
theorem Dv.vs{t:TH}{l:List Nat}(h:Dv t l):si (eY t.aG):=Qn fun i _=>by
 by_cases hi:i∈l;.exact((h i).1 hi).aks
 .rw[(h i).2 hi];exact Sj
theorem Zk(p:bj)(ph:Nat)(h:ph=0\/ph=6):yi p (fJ ph):=by have ans:hc (fJ ph).call:=⟨by simp[fJ,oC],by simp[fJ,oC],by simp[fJ,oC],by simp[fJ,oC],by simp[fJ,oC],by simp[fJ,oC]⟩;have hp:(fJ ph).phase=ph:=J;refine⟨by rw[hp];omega,ans,fun i=>by simp[fJ],fun _=>J,fun q=>by rw[hp]at q;omega,fun _=>⟨fun _=>J,?_⟩,fun q h2=>by rw[hp]at q h2;omega,fun q=>by rw[hp]at q;omega,fun q h2=>by rw[hp]at q h2;omega,fun q h2=>by rw[hp]at q h2;omega,fun q=>by rw[hp]at q;omega,fun q=>by rw[hp]at q;omega⟩;funext i;match i with|0=>rfl|1=>rfl|2=>rfl|3=>rfl|_+4=>rfl
theorem Xb(p:bj):dT p kJ:=⟨fun n _=>Zk p 0 (.inl J),⟨ald,fun B _ _ h=>(by cases h),fun n i _ h=>(by cases h),fun n i n' i' _ _ h=>by cases h⟩,fun e he=>by cases he⟩
theorem agi(p:bj){c:KL}(h:hc c):yi p (ui c):=⟨by show 1<=6;omega,h,fun i=>Fe h i,fun q=>(by rcases q with q|q<;>cases q),fun _=>J,fun _=>⟨fun _=>J,J⟩,fun q _=>by exact absurd q (by show¬2<=1;omega),fun q=>(by cases q),fun q _=>by exact absurd q (by show¬2<=1;omega),fun q _=>by exact absurd q (by show¬3<=1;omega),fun q=>(by cases q),fun q=>by cases q⟩
theorem jp(s:WS)(n:Nat)(t:TH):(s.put n t).T n=t:=dN _ _ _
theorem BA(s:WS){n k:Nat}(t:TH)(h:k≠n):(s.put n t).T k=s.T k:=ed _ _ h
theorem yz.put{s:WS}(h:yz s){n:Nat}{t:TH}(F:t.bV=(s.T n).bV)(ha:∀i,t.bV i=true->t.args i=(s.T n).args i/\t.call=(s.T n).call/\t.aG i=(s.T n).aG i):yz (s.put n t):=by
 have key:∀k,((s.put n t).T k).bV=(s.T k).bV:=fun k=>by
  by_cases z:k=n;.subst z;rw[jp,F]
  .rw[BA _ _ z]
 have ka:∀k i,(s.T k).bV i=true->((s.put n t).T k).args i=(s.T k).args i:=fun k i hi=>by
  by_cases z:k=n;.subst z;rw[jp];exact(ha i (by rw[F];exact hi)).1
  .rw[BA _ _ z]
 refine⟨h.uX,fun B h8 eL L=>?_,fun k i z hi=>?_,fun k i k' i' z uI hi e7 he=>?_⟩;.obtain⟨k,i,z,hi,q,h2⟩:=h.cW B h8 eL L;exact⟨k,i,z,hi,by rw[key];exact q,by rw[ka k i q];exact h2⟩
 .rw[key]at hi;obtain⟨h4,B,q1,q2,q3,q4,q5⟩:=h.held k i z hi;refine⟨h4,B,q1,q2,by rw[ka k i hi];exact q3,q4,?_⟩;by_cases c8:k=n;.subst c8;rw[jp];obtain⟨_,e1,e2⟩:=ha i (by rw[F];exact hi);rw[e1,e2];exact q5
  .rw[BA _ _ c8];exact q5
 .rw[key]at hi e7;rw[ka k i hi,ka k' i' e7]at he;exact h.I0 k i k' i' z uI hi e7 he
theorem dT.put{p:bj}{s:WS}(h:dT p s){n:Nat}{t:TH}(F:t.bV=(s.T n).bV)(ha:∀i,t.bV i=true->t.args i=(s.T n).args i/\t.call=(s.T n).call/\t.aG i=(s.T n).aG i)(ht:yi p t):dT p (s.put n t):=⟨fun k z=>by
 by_cases c8:k=n;.subst c8;rw[jp];exact ht
 .rw[BA _ _ c8];exact h.cg k z,h.mem.put F ha,h.aX⟩
theorem yz.M3{s:WS}(h:yz s){n:Nat}(u:n<3)(aF:Nat)(aU:Int)(v:VS):yz (ec n aF aU v s):=by
 have N:∀j,(s.T n).bV j=true->∃B,8<=B/\B<12/\(s.T n).args j=B*64:=fun j hj=>by obtain⟨_,B,q1,q2,q3,_⟩:=h.held n j u hj;exact⟨B,q1,q2,q3⟩
 obtain⟨f1,f2,f3⟩:=aci (s.T n) s.mem 4 N;have tn:(ec n aF aU v s).T n=fJ (if aF=3 then 6 else 0):=dN _ _ _;have te:∀k,k≠n->(ec n aF aU v s).T k=s.T k:=fun k z=>ed _ _ z;have hm:(ec n aF aU v s).mem=k6 (s.T n) s.mem 4:=J;have off:∀k i,((ec n aF aU v s).T k).bV i=true->k≠n:=fun k i hi z=>by subst z;rw[tn]at hi;cases hi
 refine⟨f2 h.uX,fun B h8 eL L=>?_,fun k i z hi=>?_,fun k i k' i' z uI hi e7 he=>?_⟩
 .rw[hm,f1]at L;obtain⟨k,i,z,hi,q,h2⟩:=h.cW B h8 eL L.1;have c8:k≠n:=fun e=>by subst e;exact L.2 i hi q h2
  exact⟨k,i,z,hi,by rw[te k c8];exact q,by rw[te k c8];exact h2⟩
 .have c8:=off k i hi;rw[te k c8]at hi⊢;obtain⟨h4,B,q1,q2,q3,q4,q5⟩:=h.held k i z hi;have bo:∀j,j<4->(s.T n).bV j=true->(s.T n).args j≠B*64:=fun j _ hj he=>c8 (h.I0 k i n j z u hi hj (by rw[q3,he])).1;refine⟨h4,B,q1,q2,q3,by rw[hm,f1];exact⟨q4,bo⟩,q5.1,fun j hj=>?_⟩;rw[hm,f3];.exact q5.2 j hj
  .intro zU nz hs' he;have hl:=q5.1;rw[show(B*64+j)/64=B by omega]at he;exact bo zU nz hs' he
 .have c8:=off k i hi;have abS:=off k' i' e7;rw[te k c8]at hi;rw[te k' abS]at e7;rw[te k c8,te k' abS]at he;exact h.I0 k i k' i' z uI hi e7 he
theorem Kb{p:bj}{s:WS}{n:Nat}(u:n<3)(hm:yz s)(ht:∀k,k<3->k≠n->yi p (s.T k))(hl:∀e∈s.aX,H2 p e)(aF:Nat)(aU:Int)(v:VS)(he:H2 p ⟨aF,n,(s.T n).call,v,aU⟩):dT p (ec n aF aU v s):=⟨fun k z=>by
 by_cases c8:k=n;.subst c8;rw[show(ec k aF aU v s).T k=fJ (if aF=3 then 6 else 0)from dN _ _ _];exact Zk p _ (by split<;>simp)
 .rw[show(ec n aF aU v s).T k=s.T k from ed _ _ c8];exact ht k z c8,hm.M3 u aF aU v,fun e h=>by
 rcases jC.1 h with h|h;.exact hl e h
 .rw[jB]at h;rw[h];exact he⟩
theorem abA(p:bj){n aF:Nat}{c:KL}{aU:Int}(u:n<3)(z:aF=2\/aF=3)(H:hc c)(he:0<=aU/\aU<=255):H2 p ⟨aF,n,c,cb,aU⟩:=⟨by show 1<=aF/\aF<=3;omega,u,H,afZ,he,fun h=>by exact absurd h (by show¬aF=1;omega)⟩
theorem dT.Ey{p:bj}{s:WS}(h:dT p s){n:Nat}(u:n<3){aF:Nat}{aU:Int}(z:aF=2\/aF=3)(he:0<=aU/\aU<=255):dT p (ec n aF aU cb s):=Kb u h.mem (fun k z _=>h.cg k z) h.aX aF aU cb (abA p u z (h.cg n u).kl he)
theorem M1{p:bj}(h:cM p=0):dl p.bg=0/\∀r∈p.bw,g_ r=0:=by
 unfold cM at h;split at h;.cases h
 .split at h;.rename_i q;exact⟨q,fun r L=>(Gy.1 h) _ (tU.2 ⟨r,L,J⟩)⟩
  .rename_i h2;exact absurd h h2
theorem Ng{r:RL}(h:g_ r=0):0<=r.nr/\r.nr<=8/\(∀c∈r.bq,hK r.nr.toNat c=0)/\dl r.dO=0:=by
 unfold g_ at h;split at h;.cases h
 .split at h;.cases h
  .split at h;.rename_i h2;exact⟨by omega,by omega,fun c H=>(Gy.1 h2) _ (tU.2 ⟨c,H,J⟩),h⟩
   .rename_i h2;exact absurd h h2
theorem agG{nr:Nat}{c:CD}(h:hK nr c=0):0<=c.a6/\c.a6<=3/\a1 nr c.a6.toNat=fA c.op:=by
 unfold hK at h;split at h;.cases h
 .split at h;.cases h
  .rename_i q h2;exact⟨by omega,by omega,Classical.byContradiction fun h3=>h2 (.inl h3)⟩
theorem abr{k:KL}{bg:bG}(he:dl bg=0):∀(rs:List RL)(i:Nat),(∀r∈rs,g_ r=0)->(fN k bg rs i).1.aF=4->∃r∈rs,mJ r k=true/\nx r=true
 |[],i,_,h=>absurd h (D9 he)
 |r::t,i,L,h=>by
  unfold fN at h;split at h
  .rename_i M;split at h;.rename_i hd;exact⟨r,by simp,M,hd⟩
   .exact absurd h (D9 (Ng (L r (by simp))).2.2.2)
  .obtain⟨x,hx,q⟩:=abr he t (i+1) (fun al hy=>L al (by simp[hy])) h;exact⟨x,by simp[hx],q⟩
theorem Tw{p:bj}(h:cM p=0){k:KL}(hj:(eA p k).1.aF=4):k.nr<=8/\0<(bx k.nr).length:=by
 obtain⟨q,h2⟩:=M1 h;unfold eA at hj;split at hj
 .obtain⟨r,L,M,hd⟩:=abr q p.bw 0 h2 hj;obtain⟨q0,R',adO,_⟩:=Ng (h2 r L);unfold mJ at M;rw[Bool.and_eq_true,decide_eq_true_eq]at M;have u:r.nr.toNat=k.nr:=by omega
  unfold nx at hd;obtain⟨c,H,kI⟩:=List.any_eq_true.1 hd;have z:=agG (adO c H);rw[u]at z;refine⟨by omega,List.length_pos_iff.2 fun he=>?_⟩;have hm:c.a6.toNat∈bx k.nr:=Uh (by omega) (by omega) (by
   rw[z.2.2];unfold mC at kI;unfold fA at kI⊢;split;.omega
   .split;.omega
    .rename_i a b;rw[if_neg a,if_neg b]at kI;simp at kI);rw[he]at hm;cases hm
 .exact absurd hj (by decide)
theorem aj1{a:bG}(h:dl a=0):0<=a.aU/\a.aU<=255:=by
 rcases vu h with rfl|rfl|⟨n,q,h2,rfl⟩;.exact⟨by decide,by decide⟩
 .exact⟨by decide,by decide⟩
 .exact⟨by show(0:Int)<=n;omega,by show(n:Int)<=255;omega⟩
theorem XU{k:KL}{bg:bG}(he:dl bg=0):∀(rs:List RL)(i:Nat),(∀r∈rs,g_ r=0)->(fN k bg rs i).1.aF=4\/dl (fN k bg rs i).1=0
 |[],i,_=> .inr he
 |r::t,i,L=>by
  unfold fN;split
  .split;.exact .inl J
   .exact .inr (Ng (L r (by simp))).2.2.2
  .exact XU he t (i+1) fun al hy=>L al (by simp[hy])
theorem Iv{p:bj}(h:cM p=0)(k:KL):(eA p k).1.aF=4\/dl (eA p k).1=0:=by
 obtain⟨q,h2⟩:=M1 h;unfold eA;split;.exact XU q _ _ h2
 .exact .inr (by decide)
theorem abH{k:KL}{v:VS}{bg:bG}(he:dl bg=0):∀(rs:List RL),(∀r∈rs,g_ r=0)->dl (gZ k v bg rs)=0
 |[],_=>he
 |r::t,L=>by
  unfold gZ;split;.exact(Ng (L r (by simp))).2.2.2
  .exact abH he t fun al hy=>L al (by simp[hy])
theorem KY{p:bj}(h:cM p=0)(k:KL)(v:VS):dl (ir p k v)=0:=by
 obtain⟨q,h2⟩:=M1 h;unfold ir;split;.exact abH q _ h2
 .decide
theorem aah{p:bj}{s:WS}(h:dT p s){n:Nat}(u:n<3){a:bG}(ha:dl a=0){next:Nat}(ht:a.aF=1->yi p {s.T n with phase:=next}):dT p (oW n a next s):=by
 have he:=aj1 ha;unfold oW;split;.rename_i q;exact h.put J (fun i _=>⟨J,J,J⟩) (ht q)
 .split;.exact h.Ey u (.inl J) he
  .exact h.Ey u (.inr J) (by omega)
theorem anD{p:bj}(hp:cM p=0){s:WS}(h:dT p s){n:Nat}(u:n<3)(bv:(s.T n).phase=1):dT p (uG p n s):=by
 have ht:=h.cg n u;have JB:=ht.SK bv;unfold uG;split
 .rename_i hj;obtain⟨h8,jR⟩:=Tw hp hj;refine h.put J (fun i _=>⟨J,J,J⟩) ?_;have F:(s.T n).cU=0:=by rw[JB];rfl
  have L:(s.T n).dd=[]:=by rw[JB];rfl
  have hv:(s.T n).aG=fun _=>dE:=by rw[JB];rfl
  refine⟨by show 2<=6;omega,ht.kl,ht.aY,fun q=>(by rcases q with q|q<;>cases q),fun q=>(by cases q),fun _=>ht.plain (by omega),fun _ _=>h8,fun _=>?_,fun _ _ i=>?_,fun q=>by exact absurd q (by show¬3<=2;omega),fun q=>(by cases q),fun q=>by cases q⟩;.show(s.T n).cU<_/\A7 _ (s.T n).dd;rw[F,L];exact⟨jR,fun _=>by simp,fun _=>⟨by simp,by simp⟩⟩
  .show(i∈(bx (s.T n).call.nr).take (s.T n).cU->_)/\(i∉_->(s.T n).aG i=dE);rw[F,hv];exact⟨fun hi=>by simp at hi,fun _=>J⟩
 .rename_i hj;have ha:=(Iv hp (s.T n).call).resolve_left hj;refine aah h u ha fun q=>?_;obtain⟨fP,fZ⟩:=ht.plain (by omega);exact⟨by show 5<=6;omega,ht.kl,ht.aY,fun q=>(by rcases q with q|q<;>cases q),fun q=>(by cases q),fun q=>absurd J q,fun _ q=>by exact absurd q (by show¬5<=4;omega),fun q=>(by cases q),fun _ q=>by exact absurd q (by show¬5<=4;omega),fun _ q=>by exact absurd q (by show¬5<=4;omega),fun q=>(by cases q),fun _=> .inl ⟨q,fP,fZ⟩⟩
theorem adR{p:bj}(hp:cM p=0){s:WS}(h:dT p s){n:Nat}(u:n<3)(bv:(s.T n).phase=3):dT p (BK p n s):=by have ht:=h.cg n u;refine aah h u (KY hp _ _) fun q=>?_;exact⟨by show 4<=6;omega,ht.kl,ht.aY,fun q=>(by rcases q with q|q<;>cases q),fun q=>(by cases q),fun _=>ht.plain (by omega),fun _ _=>ht.zh (by omega) (by omega),fun q=>(by cases q),fun _ _=>ht.oH (by omega) (by omega),fun _ _=>ht.MN (by omega) (by omega),fun _=>q,fun q=>by cases q⟩
theorem Pc{s:ByteArray}{x:Nat×Nat}(h:gS s=U x):x.1<4294967296/\x.2<=65535/\iI x.1 x.2=s.data.toList:=by
 unfold gS at h;split at h;.rename_i H;obtain rfl:=dG h;have q:=DM s 4;have h2:=ea s 2;have h3:=ea s 3;refine⟨by simpa using q,?_,H.2⟩;show nT s<=65535;unfold nT;omega
 .cases h
theorem agE(l:W8)(b:UInt8):(l++[b]).getLast?=U b:=by simp
theorem agp{k:Nat}(z:k=2\/k=3){l:W8}{b:UInt8}(hl:A7 k l){v:VL}(h:mG k (l++[b])=U v):rz k v:=by
 unfold mG at h;rcases z with rfl|rfl
 .rw[if_neg (by omega)]at h;split at h
  .obtain rfl:=dG h;have Ap:=hl.2 (by omega);refine .inl ⟨J,?_,?_,J,J⟩;.rw[ct,TU];exact Ap.1
   .rw[fy,TU];exact Ap.2
  .cases h
 .rw[if_pos J]at h;cases L:gS (bs (l++[b]))with
   |none=>rw[L]at h;cases h
   |some x=>rw[L]at h;obtain rfl:=dG h;obtain⟨q,h2,_⟩:=Pc L;exact .inr ⟨J,J,q,x.2,J,h2⟩
theorem aey{l:List Nat}{i:Nat}(h:i<l.length):l.take (i+1)=l.take i++[l.getD i 0]:=by rw[sH,cq h,cI,cq h];rfl
theorem ano{p:bj}{s:WS}(h:dT p s){n:Nat}(u:n<3)(bv:(s.T n).phase=2):dT p (so n s):=by
 have ht:=h.cg n u;obtain⟨jr,Es⟩:=ht.GN bv;have h8:=ht.zh (by omega) (by omega);have hv:=ht.oH (by omega) (by omega);have bE:dP (s.T n)∈bx (s.T n).call.nr:=by unfold dP;rw[cI,cq jr];exact vH jr
 have z:=(sj bE).2.2;have lA:=aey jr;have Y7:dP (s.T n)∉(bx (s.T n).call.nr).take (s.T n).cU:=fun hm=>by have Et:=Lt (s.T n).call.nr;have Wc:((bx (s.T n).call.nr).take ((s.T n).cU+1)).Nodup:=Et.sublist (List.take_sublist _ _);rw[lA,apa]at Wc;exact Wc.2.2 _ hm _ (jB.2 J) J
 obtain⟨fP,fZ⟩:=ht.plain (by omega);unfold so;split;.exact h.Ey u (.inl J) (by omega)
 .rename_i b _;obtain⟨c,H⟩:=af (bB b);rw[<-H];unfold wA;simp only;split
  .split;.exact h.Ey u (.inl J) (by unfold ED;split<;>omega)
   .rename_i v xv;have hvk:=agp z Es xv;refine h.put J (fun i hi=>by rw[fP i]at hi;cases hi) ?_;have mN:∀i,(i∈(bx (s.T n).call.nr).take ((s.T n).cU+1)->rz (a1 (s.T n).call.nr i) (aO (s.T n).aG (dP (s.T n)) v i))/\(i∉(bx (s.T n).call.nr).take ((s.T n).cU+1)->aO (s.T n).aG (dP (s.T n)) v i=dE):=fun i=>by
     rw[lA,jC,jB,show(bx (s.T n).call.nr).getD (s.T n).cU 0=dP (s.T n)from J];by_cases hi:i=dP (s.T n);.subst hi;rw[dN];exact⟨fun _=>hvk,fun kX=>absurd (.inr J) kX⟩
     .rw[ed _ _ hi];exact⟨fun hm=>(hv i).1 (hm.resolve_right hi),fun kX=>(hv i).2 fun hm=>kX (.inl hm)⟩
    by_cases eR:(s.T n).cU+1=(bx (s.T n).call.nr).length;.rw[if_pos eR];exact⟨by show 3<=6;omega,ht.kl,ht.aY,fun q=>(by rcases q with q|q<;>cases q),fun q=>(by cases q),fun _=>⟨fP,fZ⟩,fun _ _=>h8,fun q=>(by cases q),fun _ _=>mN,fun _ _=>⟨eR,J⟩,fun q=>(by cases q),fun q=>by cases q⟩
    .rw[if_neg eR];exact⟨by show 2<=6;omega,ht.kl,ht.aY,fun q=>(by rcases q with q|q<;>cases q),fun q=>(by cases q),fun _=>⟨fP,fZ⟩,fun _ _=>h8,fun _=>⟨by show(s.T n).cU+1<(bx (s.T n).call.nr).length;omega,fun _=>by show([]:W8).length<16;simp,fun _=>⟨by show([]:W8).length<=40;simp,by simp⟩⟩,fun _ _=>mN,fun q=>by exact absurd q (by show¬3<=2;omega),fun q=>(by cases q),fun q=>by cases q⟩
  .rename_i hw;refine h.put J (fun i hi=>by rw[fP i]at hi;cases hi) ?_;refine⟨by show(s.T n).phase<=6;omega,ht.kl,ht.aY,fun q=>by have h2:(s.T n).phase=0\/(s.T n).phase=6:=q;omega,fun q=>by have h2:(s.T n).phase=1:=q;omega,fun _=>⟨fP,fZ⟩,fun _ _=>h8,fun _=>⟨jr,?_⟩,fun _ _=>hv,fun q=>by have h2:3<=(s.T n).phase:=q;omega,fun q=>by have h2:(s.T n).phase=4:=q;omega,fun q=>by have h2:(s.T n).phase=5:=q;omega⟩;show A7 (a1 (s.T n).call.nr (dP (s.T n))) ((s.T n).dd++[c]);unfold nc at hw;refine⟨fun h3=>?_,fun h3=>?_⟩;.rw[if_pos h3]at hw;have:=Es.1 h3;rw[cl,gH]at hw⊢;simp at hw;omega
   .rw[if_neg h3,agE]at hw;simp at hw;have L:=Es.2 h3;refine⟨by rw[cl,gH];omega,fun hm=>?_⟩;rcases jC.1 hm with hm|hm;.exact L.2 hm
    .exact hw.1 (jB.1 hm).symm
theorem LL{m:MS}{B:Nat}(h:kW m=U B):8<=B/\B<12/\m.rd B=false/\∀n,8<=n->n<B->m.rd n=true:=by
 unfold kW at h;simp only[List.find?_cons,List.find?_nil]at h;cases h8:m.rd 8 with
  |false=>rw[h8]at h;simp at h;subst h;exact⟨by omega,by omega,h8,fun n _ _=>by omega⟩
  |true=>
   rw[h8]at h;cases h9:m.rd 9 with
    |false=>rw[h9]at h;simp at h;subst h;exact⟨by omega,by omega,h9,fun n a b=>by rw[show n=8 by omega];exact h8⟩
    |true=>
     rw[h9]at h;cases Dy:m.rd 10 with
      |false=>
       rw[Dy]at h;simp at h;subst h;refine⟨by omega,by omega,Dy,fun n a b=>?_⟩;rcases show n=8\/n=9 by omega with rfl|rfl;.exact h8
       .exact h9
      |true=>
       rw[Dy]at h;cases Ei:m.rd 11 with
        |false=>
         rw[Ei]at h;simp at h;subst h;refine⟨by omega,by omega,Ei,fun n a b=>?_⟩;rcases show n=8\/n=9\/n=10 by omega with rfl|rfl|rfl;.exact h8
         .exact h9
         .exact Dy
        |true=>rw[Ei]at h;simp at h
theorem U_{m:MS}(h:kW m=ab):∀n,8<=n->n<12->m.rd n=true:=by unfold kW at h;have h':=List.find?_eq_none.1 h;intro n q h2;have:=h' n (by simp;omega);simpa using this
theorem RT{k:Nat}{v:VL}(h:rz k v):(gU k v).length<=64:=by
 unfold gU;rcases h with⟨rfl,q,_⟩|⟨rfl,_⟩;.rw[if_neg (by omega),cl,gH,<-Lib.size_eq];omega
 .rw[if_pos J];simp[iI]
theorem RN(m:MS)(B:Nat)(l:W8)(x:Nat):(jI m B l).ei x=if B*64<=x/\x<B*64+l.length then(l.getD (x-B*64) 0).toNat else m.ei x:=rfl
theorem Ru(m:MS)(B n:Nat)(l:W8):(jI m B l).rd n=if n=B then true else m.rd n:=rfl
structure H8(p:bj)(n:Nat)(d:List Nat)(s:WS):Prop where
 LQ:∀k,k<3->k≠n->yi p (s.T k)
 mem:yz s
 aX:∀e∈s.aX,H2 p e
 ph:(s.T n).phase=4
 kl:hc (s.T n).call
 aY:∀i,(s.T n).args i<18446744073709551616
 nr:(s.T n).call.nr<=8
 DG:(ir p (s.T n).call (eY (s.T n).aG)).aF=1
 oH:Dv (s.T n) (bx (s.T n).call.nr)
 bV:∀i,(s.T n).bV i=true↔i∈d
theorem H8.next{p:bj}{n:Nat}{d:List Nat}{s:WS}(h:H8 p n d s)(u:n<3){i B:Nat}(hi:i∈bx (s.T n).call.nr)(hd:i∉d)(N:kW s.mem=U B):H8 p n (d++[i]) ⟨aO s.T n {s.T n with args:=aO (s.T n).args i (B*64),bV:=aO (s.T n).bV i true},jI s.mem B (gU (a1 (s.T n).call.nr i) ((s.T n).aG i)),s.aX⟩:=by
 obtain⟨R',Qp,D8,_⟩:=LL N;have hv:=(h.oH i).1 hi;have cY:=RT hv;obtain⟨l,hl⟩:=af (gU (a1 (s.T n).call.nr i) ((s.T n).aG i));rw[<-hl]at cY⊢;obtain⟨t,ht⟩:∃t:TH,t={s.T n with args:=aO (s.T n).args i (B*64),bV:=aO (s.T n).bV i true}:=⟨_,J⟩;have ER:t.call=(s.T n).call:=by rw[ht]
 have Ke:t.aG=(s.T n).aG:=by rw[ht]
 have E0:t.args=aO (s.T n).args i (B*64):=by rw[ht]
 have Nt:t.bV=aO (s.T n).bV i true:=by rw[ht]
 have an7:t.phase=(s.T n).phase:=by rw[ht]
 rw[<-ht];clear ht;have tn:aO s.T n t n=t:=dN _ _ _;have te:∀k,k≠n->aO s.T n t k=s.T k:=fun k z=>ed _ _ z;have Sk:(s.T n).bV i=false:=by
  cases hsi:(s.T n).bV i with
   |false=>rfl
   |true=>exact absurd ((h.bV i).1 hsi) hd
 have M0:∀k j,(aO s.T n t k).bV j=true->(k=n/\j=i/\(aO s.T n t k).args j=B*64)\/((s.T k).bV j=true/\(aO s.T n t k).args j=(s.T k).args j/\¬(k=n/\j=i)):=fun k j hj=>by
  by_cases z:k=n
  .subst z;rw[tn]at hj⊢;by_cases jz:j=i;.subst jz;exact .inl ⟨J,J,by rw[E0,dN]⟩
   .rw[Nt,ed _ _ jz]at hj;exact .inr ⟨hj,by rw[E0,ed _ _ jz],fun h=>jz h.2⟩
  .rw[te k z]at hj⊢;exact .inr ⟨hj,J,fun h=>z h.1⟩
 have Ry:∀k j,k<3->(s.T k).bV j=true->(s.T k).args j≠B*64:=fun k j z hj he=>by
  obtain⟨_,q',bR,a2,a3,a4,_⟩:=h.mem.held k j z hj;have:q'=B:=by omega
  rw[this,D8]at a4;cases a4
 refine⟨fun k z c8=>?_,⟨⟨fun x=>?_,fun x h8 eL=>h.mem.uX.wt x h8 eL⟩,fun q' h8 eL L=>?_,fun k j z hj=>?_,fun k j k' zU z uI hj nz he=>?_⟩,h.aX,?_,?_,fun j=>?_,?_,?_,?_,fun j=>?_⟩;.show yi p (aO s.T n t k);rw[te k c8];exact h.LQ k z c8
 .show(jI s.mem B l).ei x<256;rw[RN];split;.exact UInt8.toNat_lt _
  .exact h.mem.uX.bytes x
 .show∃k j,k<3/\j<4/\(aO s.T n t k).bV j=true/\(aO s.T n t k).args j=q'*64;have Fj:(jI s.mem B l).rd q'=true:=L;rw[Ru]at Fj;by_cases mH:q'=B;.exact⟨n,i,u,(sj hi).2.1,by rw[tn,Nt,dN],by rw[tn,E0,dN,mH]⟩
  .rw[if_neg mH]at Fj;obtain⟨k,j,z,hj,bR,a2⟩:=h.mem.cW q' h8 eL Fj;by_cases c8:k=n
   .subst c8;have jz:j≠i:=fun e=>by rw[e,Sk]at bR;cases bR
    exact⟨k,j,z,hj,by rw[tn,Nt,ed _ _ jz];exact bR,by rw[tn,E0,ed _ _ jz];exact a2⟩
   .exact⟨k,j,z,hj,by rw[te k c8];exact bR,by rw[te k c8];exact a2⟩
 .show j<4/\∃q',8<=q'/\q'<12/\(aO s.T n t k).args j=q'*64/\(jI s.mem B l).rd q'=true/\Is (jI s.mem B l) q' (gU (a1 (aO s.T n t k).call.nr j) ((aO s.T n t k).aG j));rcases M0 k j hj with⟨rfl,rfl,a3⟩|⟨bR,a2,a3⟩;.refine⟨(sj hi).2.1,B,R',Qp,a3,by rw[Ru,if_pos J],?_⟩;rw[tn,ER,Ke,<-hl];refine⟨cY,fun x hx=>?_⟩;rw[RN,if_pos ⟨by omega,by omega⟩,show B*64+x-B*64=x by omega]
  .obtain⟨h4,q',b1,b2,b3,rW,pz⟩:=h.mem.held k j z bR;have mH:q'≠B:=fun e=>Ry k j z bR (by rw[b3,e]);refine⟨h4,q',b1,b2,by rw[a2];exact b3,by rw[Ru,if_neg mH];exact rW,?_⟩;have hbv:gU (a1 (aO s.T n t k).call.nr j) ((aO s.T n t k).aG j)=gU (a1 (s.T k).call.nr j) ((s.T k).aG j):=by
    by_cases c8:k=n;.subst c8;rw[tn,ER,Ke]
    .rw[te k c8]
   rw[hbv];refine⟨pz.1,fun x hx=>?_⟩;have bb:=pz.1;rw[RN,if_neg (by omega)];exact pz.2 x hx
 .show k=k'/\j=zU;have Ma:(aO s.T n t k).args j=(aO s.T n t k').args zU:=he;rcases M0 k j hj with⟨bR,a2,a3⟩|⟨bR,a2,a3⟩
  .rcases M0 k' zU nz with⟨b1,b2,b3⟩|⟨b1,b2,b3⟩;.exact⟨bR.trans b1.symm,a2.trans b2.symm⟩
   .exact absurd (by rw[<-b2,<-Ma,a3]) (Ry k' zU uI b1)
  .rcases M0 k' zU nz with⟨b1,b2,b3⟩|⟨b1,b2,b3⟩;.exact absurd (by rw[<-a2,Ma,b3]) (Ry k j z bR)
   .rw[a2,b2]at Ma;exact h.mem.I0 k j k' zU z uI bR b1 Ma
 .show(aO s.T n t n).phase=4;rw[tn,an7];exact h.ph
 .show hc (aO s.T n t n).call;rw[tn,ER];exact h.kl
 .show(aO s.T n t n).args j<_;rw[tn,E0];unfold aO;split;.omega
  .exact h.aY j
 .show(aO s.T n t n).call.nr<=8;rw[tn,ER];exact h.nr
 .show(ir p (aO s.T n t n).call (eY (aO s.T n t n).aG)).aF=1;rw[tn,ER,Ke];exact h.DG
 .show Dv (aO s.T n t n) (bx (aO s.T n t n).call.nr);rw[tn];intro j;rw[ER,Ke];exact h.oH j
 .show(aO s.T n t n).bV j=true↔j∈d++[i];rw[tn,Nt,jC,jB];by_cases jz:j=i;.subst jz;rw[dN];simp
  .rw[ed _ _ jz,h.bV];simp[jz]
theorem Xw{p:bj}{n:Nat}(u:n<3):∀(r d:List Nat)(s:WS),H8 p n d s->d++r=bx (s.T n).call.nr->dT p (jm n r s)
 |[],d,s,h,hd=>by
  rw[ry]at hd;unfold jm;refine⟨fun k z=>?_,h.mem.put J (fun i _=>⟨J,J,J⟩),h.aX⟩;by_cases c8:k=n;.subst c8;rw[jp];exact⟨by show 5<=6;omega,h.kl,h.aY,fun q=>(by rcases q with q|q<;>cases q),fun q=>(by cases q),fun q=>absurd J q,fun _ q=>by exact absurd q (by show¬5<=4;omega),fun q=>(by cases q),fun _ q=>by exact absurd q (by show¬5<=4;omega),fun _ q=>by exact absurd q (by show¬5<=4;omega),fun q=>(by cases q),fun _=> .inr ⟨h.nr,h.DG,fun i=>by rw[<-hd];exact h.bV i,h.oH⟩⟩
  .rw[BA _ _ c8];exact h.LQ k z c8
 |i::r,d,s,h,hd=>by
  unfold jm;split;.exact Kb u h.mem h.LQ h.aX 2 12 cb (abA p u (.inl J) h.kl (by omega))
  .rename_i B N;have hi:i∈bx (s.T n).call.nr:=by rw[<-hd];simp
   have Et:=Lt (s.T n).call.nr;rw[<-hd,apa]at Et;have Sk:i∉d:=fun hm=>Et.2.2 _ hm _ (by simp) J;refine Xw u r (d++[i]) _ (h.next u hi Sk N) ?_;rw[y8];show d++i::r=bx (aO s.T n _ n).call.nr;rw[dN];exact hd
theorem agP{p:bj}{s:WS}(h:dT p s){n:Nat}(u:n<3)(bv:(s.T n).phase=4):H8 p n [] s:=by have ht:=h.cg n u;have hv:=ht.oH (by omega) (by omega);rw[(ht.MN (by omega) (by omega)).1,sE]at hv;exact⟨fun k z _=>h.cg k z,h.mem,h.aX,bv,ht.kl,ht.aY,ht.zh (by omega) (by omega),ht.DG bv,hv,fun i=>by rw[(ht.plain (by omega)).1 i];simp⟩
theorem ag'{p:bj}{s:WS}(h:dT p s){n:Nat}(u:n<3)(bv:(s.T n).phase=4):dT p (z8 n s):=Xw u _ [] s (agP h u bv) J
theorem abW{f:Nat->Option Nat}{a:Nat}:∀(k i:Nat)(l:List Nat)(e:Nat)(nt:List Nat),Mm.aqq f a k i l=(e,nt)->l.length+k<=41->nt.length<=40
 |0,i,l,e,nt,h,_=>by unfold Mm.aqq at h;cases h;simp
 |k+1,i,l,e,nt,h,z=>by
  unfold Mm.aqq at h;split at h;.cases h;simp
  .split at h;.cases h;omega
   .exact abW k (i+1) _ e nt h (by rw[cl,gH];omega)
theorem amm{m:MS}{k a:Nat}{x:VL}(h:jU m k a= .inl x):tl x:=by
 unfold jU at h;split at h
 .split at h;.rename_i l hl;obtain rfl:=Sum.inl.inj h;have:=abW 41 0 [] 0 l hl (by simp);refine⟨?_,by simp,eF (k:=0) (by omega)⟩;show(e5 l).toArray.size<=1000;simp[e5];omega
  .cases h
 .split at h;.cases h
  .split at h;.rename_i apW hx;obtain rfl:=Sum.inl.inj h;obtain⟨q,h2,_⟩:=Pc hx;exact⟨by simp,q,eF (by omega)⟩
   .cases h
theorem aib{m:MS}{B j:Nat}(N:B<12)(hj:j<64)(L:m.rd B=true):ey m (ch (B*64) j)=U (m.ei (B*64+j)):=by unfold ey ch;rw[Nat.mod_eq_of_lt (by omega),if_pos ⟨by omega,by rw[show(B*64+j)/64=B by omega];exact L⟩]
theorem Ui{m:MS}{B:Nat}(N:B<12)(L:m.rd B=true)(l:W8)(hl:l.length<=40)(h0:(0:UInt8)∉l)(F:Is m B (l++[0])):∀(k i:Nat),i+k=41->i<=l.length->Mm.aqq (ey m) (B*64) k i ((l.take i).map tO)=(0,l.map tO)
 |0,i,z,hi=>by omega
 |k+1,i,z,hi=>by
  have hb:=F.2 i (by rw[cl,gH];omega);unfold Mm.aqq;rw[aib N (by omega) L,hb];simp only;by_cases am:i<l.length
  .have hg:(l++[0]).getD i 0=l[i]:=by rw[cI,List.getElem?_append_left am,cq am];rfl
   rw[hg];have bo:l[i].toNat≠0:=fun e=>h0 (by have:l[i]=0:=UInt8.toNat_inj.1 (by rw[e];rfl);rw[<-this];exact vH am);rw[if_neg bo];have ht:(l.take i).map tO++[l[i].toNat]=(l.take (i+1)).map tO:=by rw[sH,cq am,List.map_append];rfl
   rw[ht];exact Ui N L l hl h0 F k (i+1) (by omega) (by omega)
  .have W9:i=l.length:=by omega
   have hg:(l++[0]).getD i 0=0:=by rw[cI,W9];simp
   rw[hg,if_pos (show tO 0=0 from J),W9,sE]
theorem ahp{m:MS}{B:Nat}(N:B<12)(L:m.rd B=true){l:W8}(F:Is m B l):h1 m (B*64) l.length=U (l.map tO):=ag7 N F.1 L F.2
theorem ama{m:MS}{k B:Nat}{v:VL}(hv:rz k v)(N:B<12)(L:m.rd B=true)(F:Is m B (gU k v)):jU m k (B*64)= .inl v:=by
 obtain⟨bf,ip,aB⟩:=v;unfold jU;unfold gU at F;rcases hv with⟨rfl,q,h2,h3,h4⟩|⟨rfl,q,h2,r,h3,h4⟩;.rw[if_neg (by omega)]at F;simp only at q h2 h3 h4 F;subst h3 h4;have:=Ui N L bf.data.toList (by rw[<-Lib.size_eq];exact q) h2 F 41 0 (by omega) (by omega);rw[List.take_zero,List.map_nil]at this;rw[if_pos J,this];simp only;rw[aaA]
 .rw[if_pos J]at F;simp only at q h2 h3 F;subst q h3;rw[show((r:Nat):Int).toNat=r from J]at F;have hg:=ahp N L F;rw[show(iI ip r).length=16 from J]at hg;rw[if_neg (by omega),hg];simp only;rw[aaA,agx ip r h2 h4]
theorem ah7{m:MS}{k a e:Nat}(h:jU m k a= .inr e):e<=255:=by
 unfold jU at h;split at h
 .split at h;.cases h
  .obtain rfl:=Sum.inr.inj h;split<;>omega
 .split at h;.obtain rfl:=Sum.inr.inj h;omega
  .split at h;.cases h
   .obtain rfl:=Sum.inr.inj h;omega
theorem aa8{p:bj}(hp:l3 p){s:WS}(h:dT p s){n:Nat}(u:n<3)(M:aa_ p (s.T n)):∀(r:List Nat)(v:Nat->VL),(∀i,tl (v i))->dT p (kp n s r v)
 |[],v,hv=>by
  unfold kp;refine Kb u h.mem (fun k z _=>h.cg k z) h.aX 1 0 _ ⟨by show 1<=1/\1<=3;omega,u,(h.cg n u).kl,Qn fun i _=>hv i,by show(0:Int)<=0/\(0:Int)<=255;omega,fun _=>?_⟩;rcases ad3 hp (s.T n).call (eY v)with⟨q,_⟩|⟨_,_,h3⟩;.rw[M.1]at q;cases q
  .show(ir p (s.T n).call (eY v)).aF=1;rw[h3];exact M.1
 |i::r,v,hv=>by
  unfold kp;split
  .rename_i x hx;refine aa8 hp h u M r _ fun j=>?_;unfold aO;split;.exact amm hx
   .exact hv j
  .rename_i e he;exact h.Ey u (.inl J) (by have:=ah7 he;omega)
theorem abB{p:bj}{s:WS}(h:dT p s){n:Nat}(u:n<3)(M:Uf p (s.T n)):∀(r d:List Nat)(v:Nat->VL),d++r=bx (s.T n).call.nr->(∀i,v i=if i∈d then(s.T n).aG i else dE)->kp n s r v=ec n 1 0 (eY (s.T n).aG) s
 |[],d,v,hd,hv=>by
  unfold kp;rw[ry]at hd;have:v=(s.T n).aG:=by
   funext i;rw[hv i];split;.rfl
   .rename_i hi;rw[hd]at hi;exact((M.oH i).2 hi).symm
  rw[this]
 |i::r,d,v,hd,hv=>by
  have hi:i∈bx (s.T n).call.nr:=by rw[<-hd];simp
  obtain⟨_,B,R',Qp,CJ,D8,qs⟩:=h.mem.held n i u ((M.bV i).2 hi);unfold kp;rw[CJ,ama ((M.oH i).1 hi) Qp D8 qs];refine abB h u M r (d++[i]) _ (by rw[y8];exact hd) fun j=>?_;unfold aO;by_cases hj:j=i;.rw[if_pos hj,if_pos (jC.2 (.inr (jB.2 hj))),hj]
  .rw[if_neg hj,hv j];by_cases MU:j∈d;.rw[if_pos MU,if_pos (jC.2 (.inl MU))]
   .rw[if_neg MU,if_neg (fun h=>(jC.1 h).elim MU fun h=>hj (jB.1 h))]
theorem akl{p:bj}(hp:l3 p){s:WS}(h:dT p s){n:Nat}(u:n<3)(bv:(s.T n).phase=5):dT p (oX n s):=by
 have ht:=h.cg n u;unfold oX;split;.exact h.Ey u (.inl J) (by omega)
 .rcases ht.sr bv with M|M;.exact aa8 hp h u M _ _ fun _=>Sj
  .rw[abB h u M (bx (s.T n).call.nr) [] (fun _=>dE) J fun i=>by simp];exact Kb u h.mem (fun k z _=>h.cg k z) h.aX 1 0 _ ⟨by show 1<=1/\1<=3;omega,u,ht.kl,M.oH.vs,by show(0:Int)<=0/\(0:Int)<=255;omega,fun _=>M.DG⟩
theorem aiq{p:bj}(hp:cM p=0)(N:l3 p){s:WS}(h:dT p s){n:Nat}(u:n<3):dT p (fb p n s):=by
 unfold fb;split;.rename_i bv;exact anD hp h u bv
 .rename_i bv;exact ano h u bv
 .rename_i bv;exact adR hp h u bv
 .rename_i bv;exact ag' h u bv
 .rename_i bv;exact akl N h u bv
 .exact h
theorem acV{p:bj}{s:WS}(h:dT p s){m:MS}(hh:pv s.mem m)(hb:nd s.mem->nd m):dT p {s with mem:=m}:=⟨h.cg,⟨alY h.mem.uX hh hb,fun B h8 eL L=>h.mem.cW B h8 eL ((hh.1 B h8).1▸L),fun n i u hi=>by obtain⟨h4,B,bR,a2,a3,a4,a5,pW⟩:=h.mem.held n i u hi;exact⟨h4,B,bR,a2,a3,by rw[show({s with mem:=m}:WS).mem=m from J,(hh.1 B bR).1];exact a4,a5,fun j hj=>by rw[show({s with mem:=m}:WS).mem=m from J,hh.2 _ (by omega)];exact pW j hj⟩,h.mem.I0⟩,h.aX⟩
end Go.Proofs.YtefdakbahplnbaaGreatDoor
