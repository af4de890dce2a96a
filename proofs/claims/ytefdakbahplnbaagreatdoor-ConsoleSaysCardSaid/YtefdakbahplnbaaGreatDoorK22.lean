/- The document's Decide. -/
import Derived.Test.YtefdakbahplnbaaGreatDoorK21
import Derived.Test.YtefdakbahplnbaaGreatDoorK16
import Derived.Test.YtefdakbahplnbaaGreatDoorK18
open Go.Proofs.Tryz
open Bool renaming and_assoc->N_
open Go renaming below_regrown->cN,bodyPost_ret->ba,cell_regrown->aJ,results_cell_row->kM,setRow_heap->aV,wpList_store_row->bK
open Go.IntKind renaming i64->R,u64->ah
open Go.Value renaming agg->aw,bool->aH,int->I
open List renaming getElem?_cons_succ->c7,getElem?_cons_zero->cT,getElem?_toArray->cK,mem_of_getElem?->iy
namespace Go.Proofs.YtefdakbahplnbaaGreatDoor
open Go.RowKit Go.Sort
theorem aez{f0:Bool}{α:Type}{f:α->Bool}{l:List α}{i:Nat}(h:(f0&&(l.take i).all f)=false):(f0&&l.all f)=false:=by
 cases f0 with
  |false=>rfl
  |true=>rw[Bool.true_and]at h⊢;exact GU h
set_option maxHeartbeats 4000000 in set_option maxRecDepth 100000 in theorem anh(p:bj)(bh:l3 p)(oa:Option Addr)(cap:Nat)(k:KL)(z:hc k)(v:VS)(hv:si v)(w:World)(hp:fc oa cap p w):Calls Tryz.prog 82 #[ep p oa cap,cR k,qv v] w fun e w'=>e= .returned (fe (ir p k v))/\Below w.heap.size w w':=by
 obtain⟨n,u⟩:=af p.bw.length;obtain⟨vc,ja⟩:=af (eU v);have j9:vc.size=12:=by rw[ja];rfl
 obtain⟨V,hV,hB,jt,hx,hy,hu,hz⟩:=Yb w #[.slice oa p.bw.length cap,I R p.bg.aF,I R p.bg.aU] (bX k) vc #[I R 0,I R 0] 32 68 73 30;have G:=aa (zg hp n u);have qj:=aa bh.bw;have eL:n<=12:=by have:=bh.qO;omega
 have gN:=fun r L oa cap X H=>aaM r L oa cap k z X H;have HU:=aa hu;clear hp bh z hu;unfold bX at hV hy;unfold qv;rw[<-ja];have IA:=aa ja;clear ja;obtain⟨rs,⟨aN,aP⟩⟩:=p;have HL:=aa (show∀i,i<n->∃c,rs[i]?=some c/\rs.drop i=c::rs.drop (i+1)from fun i h=>N0 (by simp only at u;omega));unfold ep cR bX at*;simp only at*;rw[<-u]at hV hx⊢;have HN:=aa u;clear u;obtain⟨dv,kn,b_,b1,b2,b3⟩:=k;simp only at*;have x0:=hx 0;have x1:=hx 1;have x2:=hx 2;have y0:=hy 0;have y1:=hy 1;have y2:=hy 2;have y3:=hy 3;have y4:=hy 4;have y5:=hy 5;simp only[cK,cT,c7]at x0 x1 x2 y0 y1 y2 y3 y4 y5;clear hx hy;by_cases ha:dv=3221225534
 .have HJ:=aa (show ir ⟨rs,⟨aN,aP⟩⟩ ⟨dv,kn,b_,b1,b2,b3⟩ v=gZ ⟨dv,kn,b_,b1,b2,b3⟩ v ⟨aN,aP⟩ rs from if_pos ha);have mx:(dv:Int)=3221225534:=by omega
  rw[mx]at hV y0⊢;have ln:=aa mx;clear ha mx;go_enter func82,ntmps82;go_wp2;rw[<-hV];clear hV;go_loopw[7](fun aL w'=>∃i:Nat,i<=n/\aL=I R i/\Hid (gZ ⟨dv,kn,b_,b1,b2,b3⟩ v ⟨aN,aP⟩ rs=gZ ⟨dv,kn,b_,b1,b2,b3⟩ v ⟨aN,aP⟩ (rs.drop i))/\Hid (Below V.heap.size V w'))(fun aL _=>n-(intOf aL).toNat);case atStart=>exact⟨0,by omega,J,aa J,aa (Below.refl _ _)⟩
  case round=>
   obtain⟨i,hi,rfl,HG,S⟩:=hrel;have HW:=aa (ax hB S.out);have vo:w.heap.size+3<V.heap.size:=by omega
   have g0:=ao S.out x0;by_cases am:i<n
   .obtain⟨c,cH,q9⟩:=HL.out i am;obtain⟨b,off,rfl,ds,HA⟩:=G.out (by omega);obtain⟨dj,cc,cZ⟩:=HA.out i c cH;have hR:=cZ.au ds HW.out;clear cZ;have pu:=qj.out c (iy cH);have c4:=gN c pu dj cc;have kQ:=aa hR.bq;have qL:=aa pu.bq;have cL:=aa (show gZ ⟨dv,kn,b_,b1,b2,b3⟩ v ⟨aN,aP⟩ rs=if mJ c ⟨dv,kn,b_,b1,b2,b3⟩&&wE c v then c.dO else gZ ⟨dv,kn,b_,b1,b2,b3⟩ v ⟨aN,aP⟩ (rs.drop (i+1))by rw[HG.out,q9,gZ]);have hm4:=pu.qO;have jZ:=hR.cap;have eW:=hR.le;obtain⟨uP,rP⟩:=af (mJ c ⟨dv,kn,b_,b1,b2,b3⟩);obtain⟨uB,qE⟩:=af (nx c);rw[<-rP,<-qE]at c4;rw[<-rP]at cL;obtain⟨p0,p1,p2,p3,_,_,_,_⟩:=hR;clear rP qE pu cH q9 HG;obtain⟨nr,cs,⟨rk,re⟩⟩:=c;unfold lW at c4;unfold wE at cL;simp only at p0 p1 p2 p3 c4 cL kQ qL hm4;simp only[ln.out]at c4;obtain⟨m,hm⟩:=af cs.length;have C':=aa (Bi kQ.out m hm);have ff:=aa (show∀i,i<m->∃c,cs[i]?=some c/\cs.take (i+1)=cs.take i++[c]from fun i h=>uD (by omega));rw[<-hm]at p1 c4 hm4;have HM:=aa hm;clear hm jZ eW;have z0:=ao S.out y0;have z1:=ao S.out y1;have z2:=ao S.out y2;have z3:=ao S.out y3;have z4:=ao S.out y4;have z5:=ao S.out y5;have Hi:=aJ g0;have S5:=aJ p0;have P1:=aJ p1;have P2:=aJ p2;have P3:=aJ p3;have Z0:=aJ z0;have Z1:=aJ z1;have Z2:=aJ z2;have Z3:=aJ z3;have Z4:=aJ z4;have Z5:=aJ z5;have kk:∀d os,Calls Tryz.prog 45 #[aw #[I R nr, .slice dj m cc,I R rk,I R re],aw #[I .u32 3221225534,I .u32 kn,I ah b_,I ah b1,I ah b2,I ah b3]] (grow (redrawn wr d) os) fun e bF=>e= .returned (.tuple #[aH uP,aH uB])/\∃p:Regrown,bF=grow (redrawn wr p.d) p.os:=fun d os=>Calls.regrown_of (c4 _ (kQ.out.au (cN wr d os)));have i1:(0:Int)<=i:=by omega
    go_wp2_with fail;clear z0 z1 z2 z3 z4 z5;refine wp_region_quiet_below (by kernel_rfl) (by kernel_rfl) ?_;repeat(go_big_quiet_step((go_at_call 45;exact kk _ _)))
    refine wpQuiet_nil ?_;intro _ bT;obtain⟨⟨dq,bJ⟩,bY⟩:=bT;subst bY;have Za:=aa (cN wr dq bJ);have lE:=aa (ax S.out (cN wr dq bJ));have q1:=P1 dq bJ;have q2:=P2 dq bJ;have q3:=P3 dq bJ;have q0:=Hi dq bJ;clear Hi S5 P1 P2 P3 Z0 Z1 Z2 Z3 Z4 Z5 kk p0 p1 p2 p3 g0;obtain⟨Y,hY⟩:=af (grow (redrawn wr dq) bJ);rw[<-hY]at lE Za q1 q2 q3 q0⊢;clear hY c4;go_wp2;go_loopw[8,10](fun d5 aL w'=>∃(j:Nat)(f:Bool),j<=m/\d5=aH f/\aL=I R j/\Hid (f=(uP&&(cs.take j).all (tG v)))/\Hid (Below Y.heap.size Y w'))(fun _ aL _=>m-(intOf aL).toNat);case atStart=>exact⟨0,uP,by omega,J,J,aa (by simp),aa (Below.refl _ _)⟩
    case round=>
     obtain⟨j,f,hj,rfl,rfl,HF,df⟩:=hrel;have ug:=aa (ax lE.out df.out);have HWZ:=aa (ax hB ug.out);have Ny:=aa (ax Za.out df.out);have r0:=ao df.out q0;have r1:=ao df.out q1;have r2:=ao df.out q2;have r3:=ao df.out q3;have j1:(0:Int)<=j:=by omega
     by_cases zG:j<m
     .cases f with
       |false=>
        have sc:=aa (show gZ ⟨dv,kn,b_,b1,b2,b3⟩ v ⟨aN,aP⟩ rs=gZ ⟨dv,kn,b_,b1,b2,b3⟩ v ⟨aN,aP⟩ (rs.drop (i+1))by rw[cL.out,if_neg (by rw[aez HF.out.symm];decide)]);go_wp2;go_round;case rel=>exact⟨i+1,by omega,by go_num,sc,ug⟩
        case measure=>simp[intOf];omega
       |true=>
        obtain⟨c,cH,fF⟩:=ff.out j zG;obtain⟨fL,xS,hca,anw,kK⟩:=C'.out (by omega);have hA:=(kK.out j c cH).au fun t=>(kL Ny.out).1 fL t anw;have HQ:=aa (T8 (f:=tG v) fF);have bh:=hA.ok;have mR:=qL.out c (iy cH);obtain⟨a,pT,A'⟩:=K_ mR;obtain⟨al,uo⟩:=af (v.eu a);have Bc:tl al:=by rw[uo];exact hv.eu a
        have t7:=XZ v a A';rw[<-IA.out,<-uo]at t7;have t0:=ao ug.out ((HU.out (a*3)).trans t7.1);have t1:=ao ug.out ((HU.out (a*3+1)).trans t7.2.1);have t2:=ao ug.out ((HU.out (a*3+2)).trans t7.2.2);have Xj:w.heap.size+2<wr.heap.size:=block_lt_of_cell t0;have zT:=fun(hg:c.ny.size<=24)w=>Gl.afC c.ny al.bf (by omega) Bc.bf w;have HH:=fun w=>ae' c.dr.ip bh.dr.ip c.dr.bits c.dr.lo c.dr.hi bh.dr.bits bh.dr.lo bh.dr.hi al.ip Bc.ip al.aB w;have Ff:tG v c=if c.op=8 then Gl.tr c.ny al.bf else if c.op=9 then Gh c.dr al else true:=by unfold tG;rw[pT,Int.toNat_natCast,uo]
        rw[Ff]at HQ;have hs:c.op=8->c.ny.size<=24:=fun h8=>by
         cases mR with
          |wF a k v ha q h6 hv=>simp only at h8;omega
          |wX a v m ha hv hm=>simp only at h8;omega
          |v_ a g ha hg=>exact(DC hg).2
          |dr a ip b lo hi ha bt M=>simp only at h8;omega
        obtain⟨p0,p1,p2,p3,wz,vY,vR,vX,w8,_⟩:=hA;clear mR t7 uo Bc bh cH fF Ff;subst hca;obtain⟨Nm,Mx,J6⟩:=al;obtain⟨a6,op,vv,mm,gl,⟨ip,cV,lo,hh⟩⟩:=c;unfold oQ at HH;simp only at p0 p1 p2 p3 wz vY vR vX w8 HH zT pT hs HQ t0 t1 t2;unfold Gh at HQ;simp only at HQ;subst pT;have bR:(0:Int)<=a:=by omega
        have a2:(a:Int)<4:=by omega
        have a3:(a:Int)%4=a:=by omega
        have a4:Int.tmod (a:Int) 4=a:=by rw[Int.tmod_eq_emod_of_nonneg bR];exact a3
        by_cases h8:op=8
        .subst h8;replace zT:=zT (hs J);rw[if_pos J]at HQ;obtain⟨A0,uQ⟩:=af (Gl.tr gl Nm);rw[<-uQ]at HQ zT;clear uQ hs HH;obtain⟨W2,ex,Xx,aae,aht⟩:=qZ wr #[I R a,I R 8,I ah vv,I ah mm, .string gl,I .u32 ip,I R cV,I R lo,I R hh] #[.string Nm,I .u32 Mx,I R J6] 129 71;have u1:=aae 1;simp only[cK,cT,c7]at u1;clear aae aht;go_wp2_with fail;rw[<-ex];clear ex;refine(zT _).mono ?_;rintro e w1⟨rfl,bb⟩;replace u1:=ao bb u1;have l4:=aa (ax df.out (ax Xx bb));clear bb Xx zT p0 p1 p2 p3 wz vY vR vX w8 t0 t1 t2;go_wp2;go_round;case rel=>exact⟨j+1,A0,by omega,J,by go_num,aa (by rw[HQ.out,<-N_,<-HF.out];rfl),l4⟩
         case measure=>simp[intOf];omega
        .rw[if_neg h8]at HQ;by_cases h9:op=9
         .subst h9;rw[if_pos J]at HQ;obtain⟨A0,uQ⟩:=af (pL ip cV lo hh Mx J6);rw[<-uQ]at HQ HH;clear uQ hs zT h8;go_wp2_with(go_at_call 117;refine(HH _).mono ?_;rintro e w1⟨rfl,bb⟩);go_round;case rel=>exact⟨j+1,A0,by omega,J,by go_num,aa (by rw[HQ.out,<-N_,<-HF.out];rfl),aa (ax df.out (ax (ax (ai _ _) (ai _ _)) bb))⟩
          case measure=>simp[intOf];omega
         .rw[if_neg h9]at HQ;clear zT HH hs;go_wp2;go_round;case rel=>exact⟨j+1,true,by omega,J,by go_num,aa (by rw[HQ.out,<-N_,<-HF.out];rfl),aa (ax df.out (ax (ai _ _) (ai _ _)))⟩
          case measure=>simp[intOf];omega
     .obtain rfl:j=m:=by omega
      rw[List.take_of_length_le (by rw[HM.out];exact Nat.le_refl _)]at HF;rw[<-HF.out]at cL;cases f with
       |false=>
        rw[if_neg (by decide)]at cL;go_wp2;go_round;case rel=>exact⟨i+1,by omega,by go_num,cL,ug⟩
        case measure=>simp[intOf];omega
       |true=>rw[if_pos J]at cL;have dg:wr.heap[w.heap.size+3]?=some (.cells #[I R 0,I R 0] 30 (0,0)):=(ug.out.block _ vo).trans hz;go_wp2_with(refine bK J 30 _ _ J (w.heap.size+3) #[I R rk,I R re] J J 30 _ dg iP J (mA _ _) ?_);refine ba (v:=aw #[I R rk,I R re]) (kM J _ _ (w.heap.size+3) 30 #[I R rk,I R re] (0,0) _ J (aV _ _ _ _ _ _ dg) underlying30 J iP) J ⟨?_,below_setRow HWZ.out (by omega) _⟩;rw[HJ.out,cL.out];rfl
   .obtain rfl:i=n:=by omega
    have cL:=aa (show gZ ⟨dv,kn,b_,b1,b2,b3⟩ v ⟨aN,aP⟩ rs=⟨aN,aP⟩by rw[HG.out,List.drop_eq_nil_of_le (by rw[HN.out];exact Nat.le_refl _),gZ]);have g1:=ao S.out x1;have g2:=ao S.out x2;have dg:wr.heap[w.heap.size+3]?=some (.cells #[I R 0,I R 0] 30 (0,0)):=(S.out.block _ vo).trans hz;go_wp2_with(refine bK J 30 _ _ J (w.heap.size+3) #[I R aN,I R aP] J J 30 _ dg iP J (mA _ _) ?_);refine ba (v:=aw #[I R aN,I R aP]) (kM J _ _ (w.heap.size+3) 30 #[I R aN,I R aP] (0,0) _ J (aV _ _ _ _ _ _ dg) underlying30 J iP) J ⟨?_,below_setRow HW.out (by omega) _⟩;rw[HJ.out,cL.out];rfl
 .have HJ:=aa (show ir ⟨rs,⟨aN,aP⟩⟩ ⟨dv,kn,b_,b1,b2,b3⟩ v=⟨3,0⟩from if_neg ha);have mx:¬(dv:Int)=3221225534:=by omega
  clear ha;go_enter func82,ntmps82;have wT:=hz;rw[hV]at wT;go_wp2_with(refine bK J 30 _ _ J (w.heap.size+3) #[I R 3,I R 0] J J 30 _ wT iP J (mA _ _) ?_);rw[hV]at hB;refine ba (v:=aw #[I R 3,I R 0]) (kM J _ _ (w.heap.size+3) 30 #[I R 3,I R 0] (0,0) _ J (aV _ _ _ _ _ _ wT) underlying30 J iP) J ⟨?_,below_setRow hB (by omega) _⟩;rw[HJ.out];rfl
end Go.Proofs.YtefdakbahplnbaaGreatDoor
