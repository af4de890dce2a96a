/- Policies, calls and values that came in, opened. -/
import Derived.Test.YtefdakbahplnbaaGreatDoorCards
import Derived.Test.YtefdakbahplnbaaGreatDoorTie
import Derived.LaidMore
import Derived.Stop.Joined
import Derived.MakeChecks
import Derived.Lib.LaidTab
import Derived.Stop.LaidErr
import Derived.Shelf.Vars
import Derived.Test.YtefdakbahplnbaaGreatDoorK36
import Derived.Test.YtefdakbahplnbaaGreatDoorK37
import Derived.Test.YtefdakbahplnbaaGreatDoorK35
import Derived.Test.YtefdakbahplnbaaGreatDoorK19
open Go.Proofs.Tryz
open And renaming intro->bQ
open Array renaming getElem?_eq_some_iff->bM
open Go renaming Addr->bl,Calls->ap,Oper->bz,Value->ag,World->ac,bodyPost_ret->ba,cell_of_row->aT,frozen_of_row->cy,heap_alloc_new->a7,setCell_eq_setRow->cJ,setRow_heap->aV,wpList_append_lies->C3,wpList_store_row->bK
open Go.Ending renaming returned->aq
open Go.IntKind renaming i64->R,wrap_i64->jP
open Go.Proofs.Tryz renaming checked->nL,prog->ae
open Go.RowKit.Below renaming heap_setCell->mV,refl->aS
open Go.Value renaming agg->aw,bool->aH,int->I,oneCell'->fG,pointer->av,slice->ak,string->ad,tuple->az
open Go.World renaming news_of_block->lS,ownsRow_nil->lj,size_alloc->bA
open Go.laidMet renaming tail->JM
open List renaming getD_eq_getElem?_getD->cI,getElem?_cons_zero->cT,getElem?_eq_getElem->cq,getElem?_eq_some_iff->pb,getElem?_map->nK,length_append->cl,length_pos_iff->AP,length_singleton->gH,length_tail->C2,map_append->mU,mem_map->tU,mem_of_getElem?->iy,nil_append->vz
open Nat renaming add_zero->po,le_refl->aA,le_trans->bL,lt_of_lt_of_le->dk,ne_of_gt->T7,zero_add->ru
open Option renaming map_eq_some_iff->qh,none->ab,some->U
open Option.some renaming inj->dG,injEq->cm
namespace Go.Proofs.YtefdakbahplnbaaGreatDoor
open Go.ChangeShapes Go.WideShapes Go.ChangeAt Go.RowKit Go.WideMaps Go.WideElems
theorem Xo:ae.cellsOf 9=1:=by kernel_rfl
end Go.Proofs.YtefdakbahplnbaaGreatDoor
namespace Go.Proofs.YtefdakbahplnbaaGreatDoor
open Go.ChangeShapes Go.WideShapes Go.ChangeAt Go.WideMaps Go.WideElems Go.RowKit
set_option maxRecDepth 100000 in theorem alm{ge:Type}{enc:TypeId×ag->ge}{os:Os}{f:FuncId}{fn:Func}{s:ChangeSpec}{X:ac->Prop}(hX:∀w w':ac,w.heap=w'.heap->X w->X w')(IV:os.Started)(ad2:nL.prog.inits.idxOf? f=ab)(vj:nL.prog.funcs[f]?=U fn)(af5:∃(w:ac)(tape:Tape)(i:Input),w.os=os/\(w.forCall tape i).Shaped nL.prog/\i.vars=[]/\Input.okWide nL.prog (w.forCall tape i) .any w.heap.size f i/\((s.pre enc nL.prog fn [] false (w.forCall tape i).memory i.args/\X (w.forCall tape i).memory)/\sizedMet enc nL.prog fn (OpenSpec.ofChange s) false (w.forCall tape i).memory i.args)/\Assume.holds {} nL.prog (lone (Frame.enter nL.prog f i.args .normal) [] (w.forCall tape i)))(alJ:∀(W:ac)(base:Nat)(args:Array ag)(rR gs:List (DataW ge))(uz:List MemPlace),(∀(j:Nat)t v,fn.params[j]?=U t->args[j]?=U v->Value.okWide nL.prog W .any base t v)->DataW.Whole enc nL.prog fn.params.toList s.vars false W args.toList rR gs uz->X W->W.ShapedOpen nL.prog->ap nL.prog f args W fun e W'=>∃v,e= .returned v/\s.post enc nL.prog fn false true false false W args v W'):ReturnsInHanded {} nL os f .any (fun w args=>(s.pre enc nL.prog fn [] false w args/\X w)/\sizedMet enc nL.prog fn (OpenSpec.ofChange s) false w args) (s.post enc nL.prog fn false true false false):=by refine returnsInHanded_of_calls cW IV ad2 af5 fun w tape i _ mR _ bh ahP _=>?_;obtain⟨_,_,_,fn',ac_,_,_,_,_,yG⟩:=bh;obtain rfl:fn'=fn:=dG (ac_.symm.trans vj);obtain⟨⟨⟨rR,gs,uz,hw,_⟩,hx⟩,_⟩:=ahP;refine(alJ (w.forCall tape i) w.heap.size i.args rR gs uz yG (DataW.Whole.of_heap (w':=w.forCall tape i) (by rfl) hw) (hX _ _ (by rfl) hx) mR).mono fun e W'⟨v,he,hp⟩=>?_;subst he;exact ChangeSpec.post_blind hp
theorem aaC{W:ac}{nm:String}{g:Nat}{d:DataW Unit}{rest:List (String×DataW Unit)}(hg:ae.globalNamed nm=U g)(ht:(ae.globals[g]?).map (·.type)=U 25)(h:laidMet ae ((nm, .iface "*errors.errorString" d)::rest) W):∃ev,W.cell? ⟨g,0,ab⟩=U ev/\(ev= .nilIface\/∃te pe,ev= .iface te pe):=by obtain⟨Z,⟨Df,t',cs,b6,p,B,yu,PB,Sx,hd,_,_⟩,_⟩:=h;obtain rfl:=dG (hg.symm.trans yu);obtain rfl:=dG (ht.symm.trans PB);obtain⟨l⟩:=cs;obtain⟨f1,ay,v,hl,_,_⟩:=iface_of_trod underlying25 hd;have H:=World.var?_cell yu Sx 0;simp only at hl;subst hl;exact⟨.iface ay v,H, .inr ⟨ay,v,J⟩⟩
theorem alS{W:ac}{rest:List (String×DataW Unit)}(h:laidMet ae (("doorward/policy.signs",Rows.laid_doorward_policy_signs)::rest) W):∀i,i<9->W.cell? ⟨0,i,ab⟩=U (.string (bs (cG.getD i []))):=by
 obtain⟨Z,⟨Df,t',cs,b6,p,B,yu,PB,Sx,hd,_,_⟩,_⟩:=h;obtain rfl:=dG ((show ae.globalNamed "doorward/policy.signs"=U 0 by kernel_rfl).symm.trans yu);obtain rfl:=dG ((show(ae.globals[0]?).map (·.type)=U 124 by kernel_rfl).symm.trans PB);obtain⟨xs,m,_,hx,_,hl,hy⟩:=DataW.trod_array underlying124 hd;have hm:xs.map (·.1)=cG.map fun x=>DataW.lit (.string x):=(DataW.agg.inj (congrArg Prod.fst hx)).symm;intro i hi;have e7:=hy i hi;rw[Xo,cq (by omega)]at e7;obtain⟨s,F,sV,_⟩:=DataW.trod_string underlying9 e7;have q:(xs.map (·.1))[i]?=U (.lit (.string s.data.toList)):=by rw[nK,cq (by omega),sV];rfl
 rw[hm,nK]at q;obtain⟨al,yy,hy2⟩:=qh.1 q;have yX:al=s.data.toList:=by injection hy2 with h2;injection h2
 rw[World.var?_cell yu Sx i,cI,yy,Option.getD_some,yX,Dc];have h2:=congrArg (·[0]?) F;simpa[List.getElem?_take,List.getElem?_drop]using h2
theorem aoF{W:ac}{laid:List (String×DataW Unit)}(h:laidMetH ae laid W)(hp:(laid.filter fun x=>x.2.handleName?.isSome)=[])(hl:∃rest,laid=("math/bits.deBruijn32tab",Rows.laid_math_bits_deBruijn32tab)::("math/bits.deBruijn64tab",Rows.laid_math_bits_deBruijn64tab)::("internal/strconv.uint64pow10",Rows.laid_internal_strconv_uint64pow10)::("unicode/utf8.acceptRanges",Rows.laid_unicode_utf8_acceptRanges)::("strconv.ErrRange",Rows.laid_strconv_ErrRange)::("strconv.ErrSyntax",Rows.laid_strconv_ErrSyntax)::("doorward/policy.signs",Rows.laid_doorward_policy_signs)::rest)(F:W.ShapedOpen ae):EV W:=by
 have h0:laidMet ae laid W:=by unfold laidMetH at h;rw[hp]at h;exact h
 obtain⟨rest,rfl⟩:=hl;have h2:=JM (JM h0);have h4:=JM (JM h2);have h5:=JM h4;have h6:=JM h5;refine⟨?_,alS h6,?_,aaC (nm:= "strconv.ErrSyntax") (g:=5) (by kernel_rfl) (by kernel_rfl) h5,aaC (nm:= "strconv.ErrRange") (g:=6) (by kernel_rfl) (by kernel_rfl) h4⟩;.exact Lib.tabIs_of_head (zs:=Lib.pow10Tab) (g:=(ae.globalNamed "internal/strconv.uint64pow10").get!) (t:=302) (e:=65) (n:=20) (by kernel_rfl) (by kernel_rfl) (by kernel_rfl) (by kernel_rfl) (by kernel_rfl) (by kernel_rfl) h2
 .exact cell_of_shapedOpen_int (t:=3) (zero:=#[.int .i64 0]) F (of_decide_eq_true (by kernel_rfl)) (by kernel_rfl) J (by kernel_rfl) (by kernel_rfl) underlying3
end Go.Proofs.YtefdakbahplnbaaGreatDoor
namespace Go.Proofs.YtefdakbahplnbaaGreatDoor
open Go.RowKit
variable{p:bj}{V:ac}{gs g O:Nat}{P:PV}{oa:Option bl}{cap:Nat}{y:ag}{s:WS}{K:Nat}{X:ac}
theorem dQ.store(h:dQ p V gs g O P oa cap y s K X){hH:Nat}(hg:hH≠gs/\hH≠g/\hH≠O/\y.ownBlock≠U hH/\V.heap.size<=hH/\P.cF<=hH)(i:Nat)(v:ag):dQ p V gs g O P oa cap y s K (X.setCell ⟨hH,i,ab⟩ v):=⟨⟨h.wl.iv,h.wl.bI.GO (b4.set hH i X v).grown hg.2.1 hg.2.2.1 hg.2.2.2.1 hg.2.2.2.2.2,h.wl.lO,h.wl.aX,b4.below h.wl.below hg.2.2.2.2.1 h.wl.below.size (b4.set hH i X v),h.wl.g,h.wl.m,h.wl.l⟩,h.iv,h.ev,(mV _ _ _ _ hg.1.symm).trans h.row,h.xx,h.vs,h.ok,h.pf,h.pk⟩
theorem dQ.start{cv Y:ac}(hN:NX p g O P V Y)(hp:fc oa cap p V)(he:EV V)(M:cM p=0)(z:l3 p)(hU:cv=Y.alloc (.cells (NG p oa cap g) 48)):dQ p V Y.heap.size g O P oa cap (ak ab 0 0) kJ 0 cv:=by
 have hb:Below Y.heap.size Y cv:=by rw[hU];exact ai _ _
 exact⟨(WL.start hN (aS _ _)).au hb,hp,he,by rw[hU];exact a7 _ _,⟨T7 hN.bI.gh,T7 hN.bI.sR,fun e=>(by cases e)⟩,hN.below.size,fun e he=>(by cases he),M,z⟩
def zK(t:W8)(ls:List W8):Nat:=if(fR t).2=0 then(if 120<ls.length then 2 else 0)else(fR t).2
def Rp(t:W8)(ls:List W8)(e:Ending)(w':ac):Prop:=(zK t ls≠0/\e=aq (az #[ak ab 0 0,cj (zK t ls)]))\/(zK t ls=0/\∃hH,e=aq (az #[ak (U ⟨hH,0,ab⟩) ls.length ls.length, .nilIface])/\Hw hH ls.length (iY (fR t).1 kJ ls).2 w')
set_option maxHeartbeats 4000000 in set_option maxRecDepth 20000 in theorem Wi(t:W8)(ht:t.length<=9000)(ls:List W8)(mv:∀x∈ls,x.length<=400)(u:ls.length<=1000)(Kt:Option bl)(vn:Nat)(w:ac)(hL:hq Kt ls w)(hE:EV w):ap ae 5 #[ad (bs t),ak Kt ls.length vn] w fun e w'=>Rp t ls e w'/\Below w.heap.size w w':=by
 have MI:=aeX t ht w hE;obtain⟨B,N⟩:=af (bs t);rw[<-N]at MI⊢;obtain⟨n,qk⟩:=af ls.length;rw[<-qk]at u⊢;have HN:=aa qk;have K0:=aa mv;have HL:=aa hL;have HE:=aa hE;have mh:=aa (show zK t ls=if(fR t).2=0 then(if 120<n then 2 else 0)else(fR t).2 by rw[qk];rfl);have qK:(fR t).2=0->cM (fR t).1=0:=fun h=>by
  unfold fR at h⊢;split at h;.cases h
  .rw[if_neg (by assumption)];split at h;.rename_i aiu rg;exact(O7 rg).2.1
   .cases h
 obtain⟨p,hp⟩:=af (fR t).1;obtain⟨f,M⟩:=af (fR t).2;rw[<-hp,<-M]at MI qK;rw[<-M]at mh;have nN:=aa hp;clear N qk mv hL hE hp M;go_enter func5,ntmps5;go_wp2_with fail;refine MI.mono ?_;rintro e X1⟨⟨oa,cap,rfl,hI⟩,c5⟩;have EK:=fun M W h=>ao2 p M oa cap W h;unfold ep;unfold ep at EK;obtain⟨V,hV,H3,hsV,hx⟩:=eN X1 #[ak oa p.bw.length cap,I R p.bg.aF,I R p.bg.aU] 32;have y0:=hx 0;have y1:=hx 1;have y2:=hx 2;simp only[List.getElem?_toArray,cT,List.getElem?_cons_succ]at y0 y1 y2;have Cz:=aa (ax c5 H3);have HI:=aa (hI.au H3);have gD:=aa (HE.out.au Cz.out);have F4:=aa (show NG p oa cap=fun g=>#[ak oa p.bw.length cap,I R p.bg.aF,I R p.bg.aU,av (U ⟨g,0,ab⟩)]from J);have dm:cM p=0->l3 p:=fun h=>BW h hI.ok;obtain⟨Cl,rL⟩:=af p.bw.length;obtain⟨nh,Cq⟩:=af p.bg.aF;obtain⟨z7,k7⟩:=af p.bg.aU;rw[<-rL]at y0;rw[<-Cq]at y1;rw[<-k7]at y2;rw[<-rL,<-Cq,<-k7]at hV EK F4⊢;have HV:=aa hV;obtain⟨zv,OE⟩:=af X1.heap.size;rw[<-OE]at y0 y1 y2;have yH:=aa OE;clear rL Cq k7 hV hI c5 H3 hsV hx MI OE;by_cases M:f=0
 .subst M;rw[kD,if_pos J]at*;replace qK:=qK J;have pm:=aa qK;have Fu:=aa (dm qK);replace EK:=EK qK V HI.out;clear dm qK;by_cases IK:120<n
  .as_aux_lemma=>
    have q:(120:Int)<n:=by omega
    rw[if_pos IK]at mh;go_wp2_with fail;rw[<-HV.out];clear HV;go_wp2;go_ret2;exact⟨.inl ⟨by rw[mh.out];omega,by rw[mh.out];rfl⟩,Cz.out⟩
  .have q:¬(120:Int)<n:=by omega
   rw[if_neg IK]at mh;go_wp2_with fail;rw[<-HV.out,<-yH.out];clear HV;refine EK.mono ?_;rintro e Y⟨g,O,P,rfl,hN⟩;have z0:=ao hN.below y0;have z1:=ao hN.below y1;have z2:=ao hN.below y2;obtain⟨cv,hU⟩:=af (Y.alloc (.cells #[ak oa Cl cap,I R nh,I R z7,av (U ⟨g,0,ab⟩)] 48));have qY:=aa (dQ.start (cv:=cv) hN HI.out gD.out pm.out Fu.out (by rw[F4.out];exact hU));have Xu:=aa (show Below w.heap.size w cv from ax (ax Cz.out hN.below) (by rw[hU];exact ai _ _));have HGB:=aa hN.akr;have Pn:=aa hN.below.size;have HU:=aa hU;clear hN EK y0 y1 y2 hU;go_wp2_with(at_make;refine Ph (f:=fun x=>ad (bs x)) 22 9 underlying22 (ad ⟨#[]⟩) (by kernel_rfl) J _ _ J n ?_ ?_ (by omega) ?_;(.rfl);(.rfl);intro w1 c9 bb);rw[<-HU.out]at c9 bb;have hUz:cv.heap.size=Y.heap.size+1:=by rw[HU.out,bA]
   have pI:=aa (qY.out.au bb);have dw:=aa (ax Xu.out bb);have AZ:Y.heap.size<Y.heap.size+1:=Nat.lt_succ_self _;have hs:=qY.out.wl.bI.gh;have pK:=qY.out.wl.bI.sR;rw[hUz]at c9 hs pK;obtain⟨hH,YG⟩:=af (Y.heap.size+1);rw[<-YG]at c9 AZ hs pK⊢;obtain⟨gs,Q6⟩:=af Y.heap.size;rw[<-Q6]at pI qY AZ⊢;have Cb:=aa (show hH≠gs/\hH≠g/\hH≠O/\V.heap.size<=hH/\P.cF<=hH/\w.heap.size<=hH from⟨by omega,by omega,by omega,by have:=Pn.out;omega,by have:=HGB.out.1;omega,by have:=Cz.out.size;have:=Pn.out;omega⟩);have xM:=aa c9;have gJ:=aa Cz.out.size;clear c9 bb AZ hUz hs pK Q6 YG HU qY Xu HGB Pn z0 z1 z2;go_loopw[40](fun aL wr=>∃(i:Nat)(y:ag),i<=n/\aL=I R i/\Hid (dQ p V gs g O P oa cap y (iY p kJ (ls.take i)).1 (i*1000) wr)/\Hid (Hw hH n (iY p kJ (ls.take i)).2 wr)/\Hid (y.ownBlock≠U hH))(fun aL _=>n-(intOf aL).toNat);case atStart=>exact⟨0,_,by omega,J,aa pI.out,aa xM.out,aa (fun e=>by cases e)⟩
   case round=>
    obtain⟨i,y,hi,rfl,HS,HR,HO⟩:=hrel;clear pI xM dw;have wH:=aa (show Below w.heap.size w wr from Cz.out.trans (HS.out.wl.below.mono gJ.out));by_cases am:i<n
    .as_aux_lemma=>
      have hl:(i:Int)<n:=by omega
      have jM:(0:Int)<=i:=by omega
      obtain⟨b,off,rfl,ds,dX⟩:=(HL.out.au wH.out).ez (by rw[<-HN.out];omega);obtain⟨x,f'⟩:∃x,ls[i]?=U x:=⟨_,cq (by rw[<-HN.out];exact am)⟩;have c1:=dX i x f';have iC:=aiY HS.out (by omega) x (K0.out x (iy f'));have HT:=aa (YB p kJ ls i (by rw[<-HN.out];exact am));rw[show ls.getD i []=x by rw[cI,f'];rfl]at HT;have sw:=aa (show(iY p kJ (ls.take i)).2.length=i by rw[KG,List.length_take,<-HN.out];omega);obtain⟨⟨v0,c0⟩,f0⟩:=HR.out.eu am;obtain⟨al,hy⟩:=af (bs x);rw[<-hy]at c1 iC;obtain⟨S2,Ji⟩:=af (hO p (iY p kJ (ls.take i)).1 x);rw[<-Ji]at iC HT;have Zt:hH<wr.heap.size:=HR.out.lt;have L':=aa Zt;clear dX f' hy Ji;go_wp2_with fail;refine iC.mono ?_;rintro e aK⟨rfl,l2,hZ,hF⟩;have Ly:=hF.block hH L'.out Cb.out.2.1 Cb.out.2.2.1 HO.out;have eC:=aa (show l2.ownBlock≠U hH from fun e=>by
       rcases hF.CP _ e with q|q;.exact HO.out q
       .have:=L'.out;omega);replace c0:=(dt Ly i).trans c0;replace f0:=(abf Ly i).trans f0;have qg:=aa ((HR.out.heap Ly).set sw.out am S2.2);have dC:=aa (hZ.store ⟨Cb.out.1,Cb.out.2.1,Cb.out.2.2.1,eC.out,Cb.out.2.2.2.1,Cb.out.2.2.2.2.1⟩ i (ad (bs S2.2)));clear Ly hZ hF iC Zt;go_wp2;go_round;case rel=>exact⟨i+1,l2,by omega,by go_num,aa (by rw[HT.out];exact dC.out.cx (by omega)),aa (by rw[HT.out];exact qg.out),eC⟩
      case measure=>simp[intOf];omega
    .as_aux_lemma=>
      have hl:¬(i:Int)<n:=by omega
      obtain rfl:i=n:=by omega
      have bc:=aa (show Hw hH i (iY p kJ ls).2 wr by have:=HR.out;rwa[show ls.take i=ls by rw[HN.out];exact List.take_length]at this);go_wp2;go_ret2;exact⟨.inr ⟨mh.out,hH,by rw[<-HN.out];rfl,by rw[<-HN.out,<-nN.out];exact bc.out⟩,wH.out⟩
 .as_aux_lemma=>rw[iL M];rw[if_neg M]at mh;go_wp2_with fail;rw[<-HV.out];clear HV;go_wp2;go_ret2;exact⟨.inl ⟨by rw[mh.out];exact M,by rw[mh.out,iL M];rfl⟩,Cz.out⟩
end Go.Proofs.YtefdakbahplnbaaGreatDoor
namespace Go.Proofs.YtefdakbahplnbaaGreatDoor
open Go.RowKit
set_option maxHeartbeats 2000000 in set_option maxRecDepth 20000 in theorem S7(ls:List W8)(hl:ls.length<=1000)(oa ob:Option bl)(dj dZ:Nat)(w:ac)(ha:hq oa ls w)(hb:hq ob ls w):ap ae 10 #[ak oa ls.length dj,ak ob ls.length dZ] w fun e w'=>e=aq (aH true)/\Below w.heap.size w w':=by
 obtain⟨n,u⟩:=af ls.length;rw[<-u]at hl⊢;have HN:=aa u;have HA:=aa ha;have S:=aa hb;clear u ha hb;go_enter func10,ntmps10;go_wp2_with fail;go_loopw[5](fun aL wr=>∃i:Nat,i<=n/\aL=I R i/\Hid (Below w.heap.size w wr))(fun aL _=>n-(intOf aL).toNat);case atStart=>exact⟨0,by omega,J,aa (aS _ _)⟩
 case round=>
  obtain⟨i,hi,rfl,HW⟩:=hrel;by_cases am:i<n
  .as_aux_lemma=>
    have xT:(i:Int)<n:=by omega
    have jM:(0:Int)<=i:=by omega
    obtain⟨b1,o1,rfl,bb,hC⟩:=(HA.out.au HW.out).ez (by rw[<-HN.out];omega);obtain⟨b2,s_,rfl,dB,lw⟩:=(S.out.au HW.out).ez (by rw[<-HN.out];omega);obtain⟨x,f'⟩:∃x,ls[i]?=U x:=⟨_,cq (by rw[<-HN.out];exact am)⟩;have bR:wr.drew.cell? ⟨b1,o1+i,ab⟩=U (ad (bs x)):=hC i x f';have a2:wr.drew.cell? ⟨b2,s_+i,ab⟩=U (ad (bs x)):=lw i x f';obtain⟨al,hy⟩:=af (bs x);rw[<-hy]at bR a2;clear hC lw f' hy;go_wp2_with fail;go_region_held3(fun w'=>w'.cell? ⟨b1,o1+i,ab⟩=U (ad al)/\w'.cell? ⟨b2,s_+i,ab⟩=U (ad al))(first|(with_reducible exact⟨bR,a2⟩)|go_keep)(fail);all_goals
     go_wp2;go_round;case rel=>exact⟨i+1,by omega,by go_num,aa HW.out.drew⟩
     case measure=>simp[intOf];omega
  .as_aux_lemma=>
    have xT:¬(i:Int)<n:=by omega
    go_wp2;go_ret;exact⟨J,HW.out⟩
theorem SS(f:Nat)(w:ac):ap ae 7 #[cj f,I R f] w fun e w'=>e=aq (aH true)/\w'=w:=by
 by_cases h:f=0;.subst h;exact(ahe 0 w).mono fun e w'⟨he,hw⟩=>⟨he,hw⟩
 .rw[iL h];refine(aou f f w).mono fun e w'⟨he,hw⟩=>⟨?_,hw⟩;rw[he];have q:decide ((0:Int)<f)=true:=decide_eq_true (by omega);rw[q];simp
def PJ:W8:=[101,108,115,101,32,97,108,108,111,119,10]
def TK:List W8:=[[101,110,116,101,114,32,48,32,51,32,55,32,48,32,48,32,48],[115,116,101,112,32,48,32,57],[108,111,103],[102,108,121]]
def abN:List W8:=[[111,107],[50],[48,32,51,32,100,111,110,101,32,55],[101,114,114,111,114,32,52]]
theorem WH:fR PJ=(⟨[],⟨1,0⟩⟩,0):=by kernel_rfl
theorem al7:(iY ⟨[],⟨1,0⟩⟩ kJ TK).2=abN:=by kernel_rfl
theorem Yi{W:ac}{g:Nat}{ls:List W8}{cs:Array ag}(h:W.heap[g]?=U (.cells cs 9 (0,0)))(H:∀(j:Nat)x,ls[j]?=U x->cs[j]?=U (ad (bs x))):hq (U ⟨g,0,ab⟩) ls W:=by exact⟨fun _=>⟨g,0,J,(bM.1 h).1,fun i x hi=>by rw[ru,aT _ _ _ _ _ _ h];exact H i x hi⟩⟩
theorem Zg{W:ac}{g n:Nat}{ls:List W8}(h:Hw g n ls W):hq (U ⟨g,0,ab⟩) ls W:=⟨fun _=>⟨g,0,J,h.lt,fun i x hi=>by rw[ru];exact h.cell hi⟩⟩
set_option maxHeartbeats 2000000 in set_option maxRecDepth 20000 in theorem aeT(w:ac)(hE:EV w):ap ae 4 #[] w fun e w'=>e=aq (aH true)/\Below w.heap.size w w':=by
 have HR:=fun X hX=>Wi PJ (by decide) TK (by decide) (by decide) (U ⟨w.heap.size,0,ab⟩) 4 X hX;have hF:zK PJ TK=0:=by unfold zK;rw[WH];rfl
 unfold Rp at HR;rw[hF,WH]at HR;simp only[al7]at HR;have iq:∀W,ap ae 7 #[.nilIface,I R 0] W fun e w'=>e=aq (aH true)/\w'=W:=SS 0;have fz:=fun oa dj ob dZ X ha hb=>S7 abN (by decide) oa ob dj dZ X ha hb;go_enter func4,ntmps4;go_wp2_with fail;refine(HR _ (Yi (a7 _ _) fun j x hx=>?_) (hE.au (ai _ _))).mono ?_;.match j,hx with|0,hx=>cases hx;rfl|1,hx=>cases hx;rfl|2,hx=>cases hx;rfl|3,hx=>cases hx;rfl
 rintro e X⟨⟨h,_⟩|⟨_,hH,rfl,hS⟩,hX⟩;.exact absurd J h
 have HX:=aa (ax (ai w _) hX);have HS:=aa hS;clear hX hS HR;go_wp2_with(first|(go_at_call 7;with_reducible refine(iq _).mono ?_;rintro e aK⟨rfl,hZ⟩;rw[hZ];clear hZ aK)|(go_at_call 10;refine(fz _ _ _ _ _ ?_ (Yi (a7 _ _) fun j x hx=>?_)).mono ?_;(.exact Zg (HS.out.au (ai _ _)));(.match j,hx with|0,hx=>cases hx;rfl|1,hx=>cases hx;rfl|2,hx=>cases hx;rfl|3,hx=>cases hx;rfl);rintro e aK⟨rfl,hZ⟩;have HZ:=aa (ax (ax HX.out (ai _ _)) hZ);clear hZ));go_ret;exact⟨J,HZ.out⟩
theorem am6{a_:Array bz}{rest:List bz}{o:bz}{a:Act}{w:ac}{aE:Exit->Act->ac->Prop}(de:o.guard=ab)(s x:Operand)(ho:o.op= .call {callee:= .builtin .append,args:=#[s,x],argTypes:=#[22,22]})(base:Nat)(F:a.eval s=ak ab 0 0)(oa:Option bl)(ls:List W8)(cap:Nat)(hx:a.eval x=ak oa ls.length cap)(zD:oa=ab->ls.length=0/\cap=0)(hP:hq oa ls w)(u:ls.length<=10000)(pE:base<=w.heap.size)(h:∀v' w',w'.ownsRow base 9 1 v' ls.length (k_ ls)->Below w.heap.size w w'->wpList ae a_ aE rest (a.put o.dst v') w'):wpList ae a_ aE (o::rest) a w:=by
 obtain⟨i,hi,hz,cP,lb⟩:=I8;cases oa with
  |none=>obtain⟨h0,rfl⟩:=zD J;have hl:ls=[]:=List.eq_nil_of_length_eq_zero h0;subst hl;exact wpList_append_own_none de s x 22 ho base 9 i 1 underlying22 hi (ak ab 0 0) 0 [] F (lj _ _ _ _) hx (h _ _ (lj _ _ _ _) (aS _ _))
  |some ju=>
   refine wpList_append_own (P:=ae) w de s x 22 ho base 9 i _ 1 16 underlying22 hi hz cP lb J (by decide) (ak ab 0 0) 0 [] F (lj _ _ _ _) ju ls.length cap (k_ ls) hx (by unfold k_;rw[List.length_map,Nat.mul_one]) ?_ ?_ (by simp only[maxLen];omega) (by omega) pE ?_;.intro j ay hu;unfold k_ at hu;rw[nK]at hu;obtain⟨al,hy,rfl⟩:=qh.1 hu;obtain⟨b,off,he,_,H⟩:=hP.ez (by have:=(pb.1 hy).1;omega);cases he;rw[show(⟨b,off,ab⟩:bl).add j=⟨b,off+j,ab⟩by unfold Addr.add;split<;>simp_all];exact H j al hy
   .intro ay hu;unfold k_ at hu;obtain⟨al,_,rfl⟩:=tU.1 hu;rfl
   .intro v' w' q h2 _;rw[ru,vz]at q;exact h v' w' q ((aS _ _).grown h2 (aA _) (fun k z=>by cases z))
theorem XR{a_:Array bz}{rest:List bz}{o:bz}{a:Act}{w:ac}{aE:Exit->Act->ac->Prop}(de:o.guard=ab)(s x:Operand)(ho:o.op= .call {callee:= .builtin .append,args:=#[s,x],argTypes:=#[22,22]})(base:Nat)(v:ag)(ls:List W8)(F:a.eval s=v)(cE:w.ownsRow base 9 1 v ls.length (k_ ls))(g:Nat)(al:W8)(hx:a.eval x=ak (U ⟨g,0,ab⟩) 1 1)(hg:w.heap[g]?=U (.cells #[ad (bs al)] 9 (0,0)))(u:ls.length<=10000)(pE:base<=w.heap.size)(h:∀b cap w',w'.ownsRow base 9 1 (ak (U ⟨b,0,ab⟩) (ls.length+1) cap) (ls.length+1) (k_ (ls++[al]))->w.grownBy w' v.ownBlock->wpList ae a_ aE rest (a.put o.dst (ak (U ⟨b,0,ab⟩) (ls.length+1) cap)) w'):wpList ae a_ aE (o::rest) a w:=by obtain⟨i,hi,hz,cP,lb⟩:=I8;refine C3 w de s x 22 ho base 9 i _ 1 16 underlying22 hi hz cP lb J (by decide) v ls.length (k_ ls) F cE ⟨g,0,ab⟩ 1 1 [ad (bs al)] hx J (lS (cs:=#[ad (bs al)]) (t:=9) (fr:=(0,0)) hg) (by simp[fG]) (by omega) (by simp only[maxLen];omega) (by omega) pE w.heap.size J ?_;intro b cap w' q h2 _ _;refine h b cap w' ?_ h2;unfold k_ at q⊢;rw[mU];exact q
theorem acL{W:ac}{base b n cap:Nat}{ls ys:List W8}(h:W.ownsRow base 9 1 (ak (U ⟨b,0,ab⟩) n cap) n (k_ (ls++ys))):hq (U ⟨b,0,ab⟩) ls W:=⟨fun _=>⟨b,0,J,(World.ownsRow.lt h b J).2,fun i x hi=>by rw[ru];refine mq h ?_;unfold k_;rw[nK,List.getElem?_append_left (pb.1 hi).1,hi];rfl⟩⟩
end Go.Proofs.YtefdakbahplnbaaGreatDoor
namespace Go.Proofs.YtefdakbahplnbaaGreatDoor
open Go.RowKit Mm
def J8:Nat->ag:=fun _=>ak ab 0 0
set_option maxRecDepth 100000 in set_option maxHeartbeats 2000000 in theorem ahJ(p:bj)(oa:Option bl)(cap D:Nat)(W:ac)(aeP:∀V:ac,(∀k,k<D->V.heap[k]?=W.heap[k]?)->D<=V.heap.size->fc oa cap p V)(hB:D<=W.heap.size):ap ae 8 #[ep p oa cap] W fun e w'=>e=aq (av (U ⟨W.heap.size+1,0,ab⟩))/\DX (W.heap.size+1) ⟨p,oa,cap,D⟩ LZ J8 (ak ab 0 0) w'/\Below W.heap.size W w':=by
 obtain⟨zt,fC⟩:=af (VA 877 (Vr.fQ (LD (W.heap.size+1) ⟨p,oa,cap,D⟩ (fun _=>tw 0) J8 (ak ab 0 0)) DV));have da:=aa fC;obtain⟨n,u⟩:=af p.bw.length;obtain⟨aN,uV⟩:=af p.bg.aF;obtain⟨aP,u'⟩:=af p.bg.aU;have gp:=aa (show zt=rH 877 (fun i=>if 3<=i/\i<783 then e' DV (i-3)else if i=0 then ak oa n cap else if i=1 then I R aN else if i=2 then I R aP else if i<876 then cO (tw 0) (ak ab 0 0) ((i-783)%31)else ak ab 0 0)by rw[fC,<-yV];refine Bz _ _ _ fun i hi=>?_;rw[u,uV,u'];rfl);unfold ep;rw[<-u,<-uV,<-u'];clear fC u uV u';go_enter func8,ntmps8;go_wp2_with(first|(refine wpList_buildTo J 80 _ J (U 4) J zt (by rw[gp.out];kernel_rfl) ?_));go_ret;obtain⟨V1,ek⟩:=af (W.alloc (.cells #[ak oa n cap,I R aN,I R aP] 32));have c9:V1.heap.size=W.heap.size+1:=by rw[ek,bA]
 have bb:Below W.heap.size W V1:=by rw[ek];exact ai _ _
 rw[<-ek];have dB:=ai V1 (.cells zt 80);have g8:=ax bb dB;refine⟨by first|rfl|rw[<-c9],⟨⟨DV,?_,aha⟩,lj _ _ _ _,fun _ _=>lj _ _ _ _,⟨fun e=>(by cases e),fun _ _ e=>(by cases e)⟩,fun _ _ _ e=>(by cases e),bL hB g8.size,fun cv hU F=>aeP cv (fun k z=>?_) F⟩,g8⟩;.show(V1.alloc (.cells zt 80)).heap[W.heap.size+1]?=_;rw[<-c9,da.out,<-c9];exact a7 V1 _
 .have uI:k<D:=z;exact(hU k z (by omega) (fun e=>by cases e) (fun _ _ e=>by cases e)).trans (g8.block k (by omega))
end Go.Proofs.YtefdakbahplnbaaGreatDoor
namespace Go.Proofs.YtefdakbahplnbaaGreatDoor
open Go.RowKit Go.Sort
theorem UB:∀(n:Nat)(f:Bool)(l:List W8)(cs:List CD),fq n f l=U cs->∀c∈cs,jJ c
 |n,f,[],cs,h,c,H=>by cases n<;>simp[fq]at h<;>subst h<;>cases H
 |0,f,w::r,cs,h,c,H=>by simp[fq]at h
 |n+1,f,w::r,cs,h,c,H=>by
  rw[fq]at h;by_cases hw:w=(if f=true then zx else yt)
  .rw[if_pos hw]at h;cases hd:ee r with
    |none=>rw[hd]at h;simp at h
    |some x=>
     obtain⟨al,k⟩:=x;rw[hd]at h;simp only[qh]at h;obtain⟨t,q,h2⟩:=h;subst h2;rcases List.mem_cons.1 H with rfl|H;.exact(Q7 hd).2.2.2
     .exact UB n false _ t q c H
  .rw[if_neg hw]at h;simp at h
theorem YP{ws:List W8}{a:bG}{n:Nat}(h:hk ws=U (a,n)):Db a:=by
 cases ws with
  |nil=>simp[hk]at h
  |cons w r=>
   rw[Ew]at h;split at h;.simp only[cm,Prod.mk.injEq]at h;rw[<-h.1];exact⟨eF (k:=1) (by omega),eF (k:=0) (by omega)⟩
   .split at h;.simp only[cm,Prod.mk.injEq]at h;rw[<-h.1];exact⟨eF (k:=3) (by omega),eF (k:=0) (by omega)⟩
    .split at h
     .cases r with
       |nil=>simp[xb]at h
       |cons x t=>
        simp only[xb]at h;split at h;.rename_i hx;simp only[cm,Prod.mk.injEq]at h;rw[<-h.1];exact⟨eF (k:=2) (by omega),eF (by omega)⟩
        .simp at h
     .simp at h
theorem aoY{l:List W8}{r:RL}(h:ke l=U r):uJ r:=by
 unfold ke at h;cases ha:hk l with
  |none=>rw[ha]at h;simp at h
  |some x=>
   obtain⟨a,n⟩:=x;rw[ha]at h;simp only at h;split at h
   .cases H:fq l.length true (l.drop (n+1))with
     |none=>rw[H]at h;simp at h
     |some cs=>
      rw[H]at h;simp only at h;split at h;.simp at h
      .simp only[cm]at h;rw[<-h];exact⟨Qb _,UB _ _ _ _ H,YP ha⟩
   .simp at h
theorem UJ:∀(l:List W8)(x:W8),jH (l++[x])=(jH l).bind fun rs=>(ke (ck 32 x)).map fun r=>rs++[r]
 |[],x=>by simp only[vz,jH];cases ke (ck 32 x)<;>rfl
 |w::t,x=>by
  rw[List.cons_append,jH,jH,UJ t x];cases ke (ck 32 w)with
   |none=>rfl
   |some r=>
    simp only;cases jH t with
     |none=>rfl
     |some rs=>simp only[Option.map_some,Option.bind_some];cases ke (ck 32 x)<;>rfl
theorem aaN:∀(l:List W8)(i:Nat)(x:W8),l[i]?=U x->ke (ck 32 x)=ab->jH l=ab|[],i,x,h,_=>by simp at h|w::t,0,x,h,u=>by simp only[cT,cm]at h;subst h;rw[jH,u]|w::t,i+1,x,h,u=>by rw[jH,aaN t i x (by simpa using h) u];cases ke (ck 32 w)<;>rfl
structure H_(w:ac)(b off:Nat)(ls:List W8)(X:ac):Prop where
 below:Below w.heap.size w X
 ci:X.heap[w.heap.size]?=U (.cells #[ak ab 0 0,I R 0,I R 0] 32 (0,0))
 wu:w9 X b off ls
 lt:b<X.heap.size
theorem H_.au{w:ac}{b off:Nat}{ls:List W8}{X Y:ac}(h:H_ w b off ls X)(hb:Below X.heap.size X Y):H_ w b off ls Y:=⟨ax h.below hb,(hb.block _ (bM.1 h.ci).1).trans h.ci,fun i x hi=>ao hb (h.wu i x hi),dk h.lt hb.size⟩
structure PX(w:ac)(r9 b off:Nat)(ls:List W8)(a:bG)(E:ag)(X:ac):Prop where
 base:H_ w b off ls X
 row:X.heap[r9]?=U (.cells (iW E a) 32 (0,0))
 le:w.heap.size<r9/\b<r9
theorem PX.lt{w:ac}{r9 b off:Nat}{ls:List W8}{a:bG}{E:ag}{X:ac}(h:PX w r9 b off ls a E X):r9<X.heap.size:=(bM.1 h.row).1
theorem PX.heap{w:ac}{r9 b off:Nat}{ls:List W8}{a:bG}{E:ag}{X Y:ac}(h:PX w r9 b off ls a E X)(ho:Y.os=X.os/\Y.tape=X.tape/\Y.output=X.output)(F:X.heap.size<=Y.heap.size)(hb:∀k,k<=r9->Y.heap[k]?=X.heap[k]?):PX w r9 b off ls a E Y:=by have hl:=h.le;exact⟨⟨h.base.below.trans ⟨ho.1,ho.2.1,ho.2.2,F,fun k z=>hb k (by omega)⟩,(hb _ (by omega)).trans h.base.ci,fun i x hi=>(dt (hb b (by omega)) _).trans (h.base.wu i x hi),dk h.base.lt F⟩,(hb r9 (aA _)).trans h.row,h.le⟩
theorem PX.au{w:ac}{r9 b off:Nat}{ls:List W8}{a:bG}{E:ag}{X Y:ac}(h:PX w r9 b off ls a E X)(hb:Below X.heap.size X Y):PX w r9 b off ls a E Y:=h.heap ⟨hb.os,hb.tape,hb.output⟩ hb.size fun k z=>hb.block k (by have:=h.lt;omega)
theorem PX.set{w:ac}{r9 b off:Nat}{ls:List W8}{a:bG}{E:ag}{X:ac}(h:PX w r9 b off ls a E X)(sv':ag):PX w r9 b off ls a sv' (X.setCell ⟨r9,0,ab⟩ sv'):=by have hl:=h.le;rw[cJ _ _ 0 _ _ _ _ h.row,show(iW E a).setIfInBounds 0 sv'=iW sv' a from J];have hb:∀k,k≠r9->(X.setRow r9 (iW sv' a)).heap[k]?=X.heap[k]?:=fun k z=>ij X r9 k _ z;exact⟨⟨h.base.below.trans ⟨J,J,J,by rw[iz];exact aA _,fun k z=>hb k (by omega)⟩,(hb _ (by omega)).trans h.base.ci,fun i x hi=>(dt (hb b (by omega)) _).trans (h.base.wu i x hi),by rw[iz];exact h.base.lt⟩,aV _ _ _ _ _ _ h.row,h.le⟩
theorem ME{W:ac}{r:Nat}(h:W.heap[r]?=U (.cells #[ak ab 0 0,I R 0,I R 0] 32 (0,0))):W.cell? ⟨r,0,ab⟩=U (ak ab 0 0)/\W.cell? ⟨r,1,ab⟩=U (I R 0)/\W.cell? ⟨r,2,ab⟩=U (I R 0)/\W.frozen? ⟨r,0,ab⟩=false/\W.frozen? ⟨r,1,ab⟩=false/\W.frozen? ⟨r,2,ab⟩=false:=⟨aT _ _ 0 _ _ _ h,aT _ _ 1 _ _ _ h,aT _ _ 2 _ _ _ h,cy _ _ 0 _ _ h,cy _ _ 1 _ _ h,cy _ _ 2 _ _ h⟩
theorem Mf{W:ac}{r:Nat}(h:W.heap[r]?=U (.cells #[ak ab 0 0,I R 0,I R 0] 32 (0,0)))(v0 v1 v2:ag):((W.setCell ⟨r,0,ab⟩ v0).setCell ⟨r,1,ab⟩ v1).setCell ⟨r,2,ab⟩ v2=W.setRow r #[v0,v1,v2]:=by rw[cJ _ _ 0 _ _ _ _ h,cJ _ _ 1 _ _ _ _ (aV _ _ _ _ _ _ h),Hy _ _ _ _ _ _ h,cJ _ _ 2 _ _ _ _ (aV _ _ _ _ _ _ h),Hy _ _ _ _ _ _ h];rfl
theorem ako{ls:List W8}(_h:0<ls.length):ls.getLast?=ls[ls.length-1]?:=List.getLast?_eq_getElem?
theorem amE{ls:List W8}{i:Nat}(q:1<=i)(h2:i+1<ls.length):ls.tail.dropLast[i-1]?=ls[i]?:=by rw[List.getElem?_dropLast,List.getElem?_tail,C2,if_pos (by omega),show i-1+1=i by omega]
set_option maxHeartbeats 4000000 in set_option maxRecDepth 100000 in theorem acP(s:W8)(F:s.length<=9000)(w:ac):ap ae 6 #[ad (bs s)] w fun e w'=>(∃oa cap,e=aq (az #[ep (fR s).1 oa cap,I R ((fR s).2:Nat)])/\fc oa cap (fR s).1 w')/\Below w.heap.size w w':=by
 have cP:=ct s;obtain⟨V0,dR,q6,fM,iA⟩:∃V,V=w.alloc (.cells #[ak ab 0 0,I R 0,I R 0] 32)/\V.heap[w.heap.size]?=U (.cells #[ak ab 0 0,I R 0,I R 0] 32 (0,0))/\Below w.heap.size w V/\V.heap.size=w.heap.size+1:=⟨_,J,a7 _ _,ai _ _,by rw[bA]⟩;have HS:=JY (bs s) (by rw[ct];exact F) 10 10 J V0;rw[fy]at HS;obtain⟨ls,mv⟩:=af (ck 10 s);rw[<-mv]at HS;have lT:ls.length<=9001:=by rw[mv];have:=yI (c:=10) s;omega
 have Cx:∀x∈ls,x.length<=9000:=by rw[mv];exact yd F
 have zy:0<ls.length:=by rw[mv];exact AP.2 (BS _ _)
 have R8:tq s=if ls.length<2\/14<ls.length\/ls.getLast?≠U []then ab else match yp (ck 32 (ls.headD []))with|U a=>(match jH ls.tail.dropLast with|U rs=>if cM ⟨rs,a⟩=0 then U ⟨rs,a⟩else ab|ab=>ab)|ab=>ab:=by rw[mv];rfl
 obtain⟨B,N⟩:=af (bs s);rw[<-N]at HS cP⊢;by_cases h8:8000<s.length
 .have HV:=aa (show fR s=(sb,2)from if_pos h8);have C4:(8000:Int)<B.size:=by omega
  clear HS R8 Cx mv N F;go_enter func6,ntmps6;go_wp2_with(refine bK J 32 _ _ J w.heap.size #[ak ab 0 0,I R 0,I R 0] J J 32 _ (a7 _ _) pZ J (wV _ _ _ _ _) ?_);refine ba (v:=az #[aw #[ak ab 0 0,I R 0,I R 0],I R 2]) (rh J _ _ w.heap.size #[ak ab 0 0,I R 0,I R 0] _ J J J (aV _ _ _ _ _ _ (a7 _ _))) J ⟨⟨ab,0,?_,?_⟩,below_setRow (ai _ _) (aA _) _⟩;.rw[HV.out];rfl
  .rw[HV.out];exact s7 _
 have C4:¬(8000:Int)<B.size:=by omega
 have wW:fR s=match tq s with|U p=>(p,0)|ab=>(sb,4):=if_neg h8;have nN:=aa wW;have A2:=aa R8;have K0:=aa mv;have kC:=aa Cx;clear wW R8 mv Cx N F h8 cP;go_enter func6,ntmps6;go_wp2_with fail;rw[show w.alloc (Obj.cells #[ak ab 0 0,I R 0,I R 0] 32)=V0 from dR.symm];refine HS.mono ?_;rintro e X⟨⟨oa,cap,rfl,hC,lw,bN⟩,hX⟩;clear HS dR;obtain⟨b,off,rfl,jS,I7⟩:=bN.ez zy;have HX:=aa (show H_ w b off ls X from⟨ax fM hX,(hX.block _ (by omega)).trans q6,I7,jS⟩);clear bN I7 jS hX q6 fM iA;obtain⟨n,u⟩:∃n,ls.length=n+1:=⟨ls.length-1,by omega⟩;rw[u]at hC lT⊢;have HN:=aa u;obtain⟨x,hx⟩:∃x,ls[n]?=U x:=⟨_,cq (by omega)⟩;have xC:=HX.out.wu n x hx;have sS:ls.getLast?=U x:=by rw[ako zy,u];exact hx
 obtain⟨l0,jM⟩:∃al,ls[0]?=U al:=⟨_,cq zy⟩;have c0:=HX.out.wu 0 l0 jM;rw[po]at c0;have YX:ls.headD []=l0:=by
  cases ls with
   |nil=>simp at jM
   |cons al t=>simpa using jM
 have Ez:=kC.out l0 (iy jM);obtain⟨DW,A9⟩:∃B:ByteArray,B=bs x:=⟨_,J⟩;rw[<-A9]at xC;have tb:DW.toList=x:=by rw[A9,lh]
 have Qy:=aa sS;have VG:=aa YX;have w1:R.wrap ((n:Int)+1-1)=n:=by rw[jP];omega
 have w2:((n:Int)+1-1)=n:=by omega
 have i0:(0:Int)<=n:=by omega
 have i1:(n:Int)<(n:Int)+1:=by omega
 have i2:(0:Int)<(n:Int)+1:=by omega
 clear hx sS YX u jM A9 zy;have Kj:=aa tb;clear tb;by_cases eT:1<=n/\n<=13/\x=[];case neg=>
  have HV:=aa (show fR s=(sb,4)by
   rw[nN.out,A2.out,if_pos];rw[HN.out,Qy.out];by_cases q:1<=n
   .by_cases h2:n<=13;.exact .inr (.inr (fun h=>eT ⟨q,h2,by simpa using h⟩))
    .exact .inr (.inl (by omega))
   .exact .inl (by omega));have aZ:=HX.out.ci;have ma:=HX.out.below;by_cases q:n<1
  .have M5:(n:Int)<1:=by omega
   clear eT;go_wp2_with(refine bK J 32 _ _ J w.heap.size #[ak ab 0 0,I R 0,I R 0] J J 32 _ aZ pZ J (wV _ _ _ _ _) ?_);refine ba (v:=az #[aw #[ak ab 0 0,I R 0,I R 0],I R 4]) (rh J _ _ w.heap.size #[ak ab 0 0,I R 0,I R 0] _ J J J (aV _ _ _ _ _ _ aZ)) J ⟨⟨ab,0,?_,?_⟩,below_setRow ma (aA _) _⟩;.rw[HV.out];rfl
   .rw[HV.out];exact s7 _
  have M5:¬(n:Int)<1:=by omega
  by_cases xV:x=[]
  .have fl:(DW.toList==[])=true:=by rw[Kj.out,xV];rfl
   have Pe:(13:Int)<n:=by have:¬n<=13:=fun h=>eT ⟨by omega,h,xV⟩;omega
   clear eT xV q;go_wp2_with(refine bK J 32 _ _ J w.heap.size #[ak ab 0 0,I R 0,I R 0] J J 32 _ aZ pZ J (wV _ _ _ _ _) ?_);refine ba (v:=az #[aw #[ak ab 0 0,I R 0,I R 0],I R 4]) (rh J _ _ w.heap.size #[ak ab 0 0,I R 0,I R 0] _ J J J (aV _ _ _ _ _ _ aZ)) J ⟨⟨ab,0,?_,?_⟩,below_setRow ma (aA _) _⟩;.rw[HV.out];rfl
   .rw[HV.out];exact s7 _
  .have fl:(DW.toList==[])=false:=by rw[Kj.out];exact pr xV
   clear eT xV q;go_wp2_with(refine bK J 32 _ _ J w.heap.size #[ak ab 0 0,I R 0,I R 0] J J 32 _ aZ pZ J (wV _ _ _ _ _) ?_);refine ba (v:=az #[aw #[ak ab 0 0,I R 0,I R 0],I R 4]) (rh J _ _ w.heap.size #[ak ab 0 0,I R 0,I R 0] _ J J J (aV _ _ _ _ _ _ aZ)) J ⟨⟨ab,0,?_,?_⟩,below_setRow ma (aA _) _⟩;.rw[HV.out];rfl
   .rw[HV.out];exact s7 _
 obtain⟨q,Pe,xV⟩:=eT;have fl:(DW.toList==[])=true:=by rw[Kj.out,xV];rfl
 have M5:¬(n:Int)<1:=by omega
 have apN:¬(13:Int)<n:=by omega
 have rn:=aa (show tq s=match yp (ck 32 l0)with|U a=>(match jH ls.tail.dropLast with|U rs=>if cM ⟨rs,a⟩=0 then U ⟨rs,a⟩else ab|ab=>ab)|ab=>ab by
  rw[A2.out,if_neg,VG.out];rw[HN.out,Qy.out,xV];intro h;rcases h with h|h|h;.omega
  .omega
  .exact h J);clear xV A2 Qy VG Kj;have dC:=fun Y=>JY (bs l0) (by rw[ct];exact Ez) 32 32 J Y;simp only[fy]at dC;obtain⟨ws,e8⟩:=af (ck 32 l0);rw[<-e8]at dC rn;have tp:ws.length<=9001:=by rw[e8];have:=yI (c:=32) l0;omega
 have s4:∀al∈ws,al.length<=9000:=by rw[e8];exact yd Ez
 have E8:0<ws.length:=by rw[e8];exact AP.2 (BS _ _)
 obtain⟨apH,U8⟩:∃B:ByteArray,B=bs l0:=⟨_,J⟩;rw[<-U8]at dC c0;clear U8 e8 Ez;go_wp2_with fail;refine(dC _).mono ?_;rintro e X2⟨⟨ob,MX,rfl,aqw,s5,bN⟩,hX⟩;obtain⟨b2,Ar,rfl,acM,aa4⟩:=bN.ez E8;replace HX:=aa (HX.out.au hX);have lr:Hid (w9 X2 b2 Ar ws):=aa aa4;clear bN aa4 hX dC xC c0 fl w1 w2;obtain⟨al,t,rfl⟩:∃al t,ws=al::t:=by
  cases ws with
   |nil=>simp at E8
   |cons al t=>exact⟨al,t,J⟩
 obtain⟨m,hm⟩:=af t.length;rw[List.length_cons,<-hm]at aqw tp⊢;have d0:=lr.out 0 al J;rw[po]at d0;obtain⟨yq,Cd⟩:∃B:ByteArray,B=bs al:=⟨_,J⟩;rw[<-Cd]at d0;have GY:yq.toList=al:=by rw[Cd,lh]
 obtain⟨o1,gC⟩:=af (if MX=1 then Ar else Ar+1);obtain⟨c1,gb⟩:=af (MX-1);have Cs:∀W,(Instr.slice 22 (ak (U ⟨b2,Ar,ab⟩) (m+1) MX) (U (I R 1)) ab ab).run ae W= .ok (ak (U ⟨b2,o1,ab⟩) m c1) W:=fun W=>by rw[Gd b2 Ar (m+1) MX 1 1 J (by omega) aqw W,<-gC,<-gb];rfl
 have pG:=V4 t (fun aI hz=>s4 aI (by simp[hz])) (U ⟨b2,o1,ab⟩) c1 X2 ⟨fun h0=>⟨b2,Ar+1,by rw[gC,if_neg (by omega)],acM,fun i aI hi=>by have:=lr.out (i+1) aI (by simpa using hi);rwa[show Ar+1+i=Ar+(i+1)by omega]⟩⟩ (by omega);rw[<-hm]at pG;have HM:=aa hm;have qo:=aa GY;have AH:=aa (show yp (al::t)=if al=rQ then(match hk t with|U (a,k)=>if k=t.length then U a else ab|ab=>ab)else ab from J);clear Cd GY hm gC gb s4 lr E8;go_wp2_with fail;refine pG.mono ?_;rintro e X3⟨rfl,hX⟩;replace HX:=aa (HX.out.au hX);have d1:=ao hX d0;clear hX pG Cs d0;have yc:∃(aN aP:Int)(k:Nat),u2 (hk t)=az #[aw #[I R aN,I R aP],I R (k:Nat)]/\((hk t=ab/\k=0)\/(hk t=U (⟨aN,aP⟩,k)/\1<=k/\k<=m)):=by
  cases hd:hk t with
   |none=>exact⟨0,0,0,J, .inl ⟨J,J⟩⟩
   |some aI=>obtain⟨⟨aN,aP⟩,k⟩:=aI;have:=Vk hd;exact⟨aN,aP,k,J, .inr ⟨J,this.1,by rw[HM.out];exact this.2.2⟩⟩
 obtain⟨aN,aP,k,Xq,ri⟩:=yc;rw[Xq];clear Xq;have H7:=aa (HX.out.au (ai X3 (.cells #[I R aN,I R aP] 30)));have d2:=ao (ai X3 (.cells #[I R aN,I R aP] 30)) d1;have am9:R.wrap ((k:Int)+1)=(k:Int)+1:=by rw[jP];rcases ri with⟨_,h⟩|⟨_,_,h⟩<;>omega
 by_cases Da:al=rQ/\hk t=U (⟨aN,aP⟩,k)/\k=m;case neg=>
  have HV:=aa (show fR s=(sb,4)by
   have:yp (al::t)=ab:=by
    rw[AH.out];by_cases hy:al=rQ
    .rw[if_pos hy];rcases ri with⟨h,_⟩|⟨h,_⟩;.rw[h]
     .rw[h];simp only;rw[if_neg (fun z=>Da ⟨hy,h,by rw[HM.out];exact z⟩)]
    .rw[if_neg hy]
   rw[nN.out,rn.out,this]);have aZ:=H7.out.ci;have ma:=H7.out.below;by_cases hy:al=rQ
  .have by1:(yq.toList==[101,108,115,101])=true:=by rw[qo.out,hy];rfl
   by_cases kH:k=0
   .subst kH;clear Da hy ri;obtain⟨q0,q1,q2,g0,g1,g2⟩:=ME aZ;go_wp2;rw[Mf aZ];refine ba (v:=az #[aw #[ak ab 0 0,I R 0,I R 0],I R 4]) (rh J _ _ w.heap.size #[ak ab 0 0,I R 0,I R 0] _ J J J (aV _ _ _ _ _ _ aZ)) J ⟨⟨ab,0,?_,?_⟩,below_setRow ma (aA _) _⟩;.rw[HV.out];rfl
    .rw[HV.out];exact s7 _
   have Do:¬(k:Int)=m:=fun h=>by
    rcases ri with⟨_,h0⟩|⟨h0,_⟩;.exact kH h0
    .exact Da ⟨hy,h0,by omega⟩
   have aku:¬(k:Int)=0:=by omega
   have dY:((k:Int)+1==(m:Int)+1)=false:=by simp;omega
   have gG:((k:Int)+1 !=(m:Int)+1)=true:=by rw[bne,dY];rfl
   clear Da hy ri kH;obtain⟨q0,q1,q2,g0,g1,g2⟩:=ME aZ;go_wp2;rw[Mf aZ];refine ba (v:=az #[aw #[ak ab 0 0,I R 0,I R 0],I R 4]) (rh J _ _ w.heap.size #[ak ab 0 0,I R 0,I R 0] _ J J J (aV _ _ _ _ _ _ aZ)) J ⟨⟨ab,0,?_,?_⟩,below_setRow ma (aA _) _⟩;.rw[HV.out];rfl
   .rw[HV.out];exact s7 _
  .have by1:(yq.toList==[101,108,115,101])=false:=by rw[qo.out];exact pr hy
   clear Da hy ri;obtain⟨q0,q1,q2,g0,g1,g2⟩:=ME aZ;go_wp2;rw[Mf aZ];refine ba (v:=az #[aw #[ak ab 0 0,I R 0,I R 0],I R 4]) (rh J _ _ w.heap.size #[ak ab 0 0,I R 0,I R 0] _ J J J (aV _ _ _ _ _ _ aZ)) J ⟨⟨ab,0,?_,?_⟩,below_setRow ma (aA _) _⟩;.rw[HV.out];rfl
   .rw[HV.out];exact s7 _
 obtain⟨hy,nj,Do⟩:=Da;have by1:(yq.toList==[101,108,115,101])=true:=by rw[qo.out,hy];rfl
 have dY:1<=k:=by
  rcases ri with⟨h,_⟩|⟨_,h,_⟩;.rw[h]at nj;simp at nj
  .exact h
 have iU:=aa (YP nj);have oF:=aa (show tq s=match jH ls.tail.dropLast with|U rs=>if cM ⟨rs,⟨aN,aP⟩⟩=0 then U ⟨rs,⟨aN,aP⟩⟩else ab|ab=>ab by
  have:yp (al::t)=U ⟨aN,aP⟩:=by rw[AH.out,if_pos hy,nj];simp only;rw[if_pos (by rw[<-HM.out];exact Do)]
  rw[rn.out,this]);subst Do;clear hy nj ri AH rn qo HM;have aku:¬(k:Int)=0:=by omega
 have xZ:=(bM.1 H7.out.ci).1;have Xf:=H7.out.lt;obtain⟨r9,DQ⟩:=af (X3.alloc (.cells #[I R aN,I R aP] 30)).heap.size;have HQ:=aa (show PX w r9 b off ls ⟨aN,aP⟩ (ak ab 0 0) ((X3.alloc (.cells #[I R aN,I R aP] 30)).alloc (.cells #[ak ab 0 0,I R aN,I R aP] 32))from⟨H7.out.au (ai _ _),by rw[DQ];exact a7 _ _,by rw[DQ];exact xZ,by rw[DQ];exact Xf⟩);rw[bA]at DQ;clear xZ Xf;go_wp2;rw[<-DQ];clear DQ d1 d2 am9;obtain⟨n',rfl⟩:∃n',n=n'+1:=⟨n-1,by omega⟩;go_loopw[10](fun aL w'=>∃(i:Nat)(es:List RE)(E:ag),i<=n'/\aL=I R ((i:Int)+1)/\Hid (PX w r9 b off ls ⟨aN,aP⟩ E w')/\Hid (w'.ownsRow (r9+1) 54 4 E es.length (qH es))/\Hid (xK r9 E es w')/\Hid (jH (ls.tail.dropLast.take i)=U (es.map (·.1)))/\Hid (es.length=i))(fun aL _=>n'+1-(intOf aL).toNat);case atStart=>exact⟨0,[],ak ab 0 0,by omega,J,HQ,aa (lj _ _ _ _),aa (fun e he=>by cases he),aa (by simp[jH]),aa J⟩
 case round=>
  obtain⟨i,es,E,hi,rfl,G,HO,HK,HI,Hm⟩:=hrel;clear HQ;by_cases am:i<n'
  .obtain⟨aI,hz⟩:∃aI,ls[i+1]?=U aI:=⟨_,cq (by rw[HN.out];omega)⟩;have TN:=kC.out aI (iy hz);have RK:=G.out.base.wu (i+1) aI hz;have bc:=fun Y=>aeI aI TN Y;have Og:ls.tail.dropLast[i]?=U aI:=by have:=amE (ls:=ls) (i:=i+1) (by omega) (by rw[HN.out];omega);rw[show i+1-1=i by omega]at this;rw[this];exact hz
   have lA:ls.tail.dropLast.take (i+1)=ls.tail.dropLast.take i++[aI]:=by rw[List.take_add_one,Og];rfl
   obtain⟨apm,Py⟩:∃B:ByteArray,B=bs aI:=⟨_,J⟩;simp only[<-Py]at bc;rw[<-Py]at RK;have x_:=aa Og;have rN:=aa lA;clear Og lA Py hz TN;have j1:(0:Int)<=(i:Int)+1:=by omega
   have j2:(i:Int)+1<(n':Int)+1:=by omega
   have n9:(i:Int)+1<(n':Int)+1+1:=by omega
   obtain⟨o,ho⟩:=af (ke (ck 32 aI));simp only[<-ho]at bc;have ro:es.length<=9000:=by have:=Hm.out;omega
   go_wp2_with fail;refine(bc _).mono ?_;rintro e w1⟨Vc,bb⟩;cases o with
    |none=>
     obtain⟨nr,⟨rk,re⟩,oc,anW,cc,Sc,jZ,rfl⟩:=Vc;have HV:=aa (show fR s=(sb,4)by rw[nN.out,oF.out,aaN _ i aI x_.out ho.symm]);have HD:=aa ((G.out.au bb).au (ai w1 (.cells #[I R nr,ak oc anW cc,I R rk,I R re] 54)));have aZ:=HD.out.base.ci;have ma:=HD.out.base.below;clear bb RK ho bc;unfold cD;simp only;obtain⟨q0,q1,q2,g0,g1,g2⟩:=ME aZ;go_wp2;rw[Mf aZ];refine ba (v:=az #[aw #[ak ab 0 0,I R 0,I R 0],I R 4]) (rh J _ _ w.heap.size #[ak ab 0 0,I R 0,I R 0] _ J J J (aV _ _ _ _ _ _ aZ)) J ⟨⟨ab,0,?_,?_⟩,below_setRow ma (aA _) _⟩;.rw[HV.out];rfl
     .rw[HV.out];exact s7 _
    |some rr=>
     obtain⟨oc,cc,rfl,eW,jZ,y6,it⟩:=Vc;have Tz:=aa (aoY ho.symm);have j4:=aa (show jH (ls.tail.dropLast.take (i+1))=U (es.map (·.1)++[rr])by rw[rN.out,UJ,HI.out,<-ho];rfl);have HD:=aa ((G.out.au bb).au (ai w1 (.cells (cD rr.nr (ak oc rr.bq.length cc) rr.dO) 54)));have yD:=aa (yY (yY HO.out bb) (ai w1 (.cells (cD rr.nr (ak oc rr.bq.length cc) rr.dO) 54)));have df:=aa (ax bb (ai w1 (.cells (cD rr.nr (ak oc rr.bq.length cc) rr.dO) 54)));have qI:=aa (bQ eW (bQ jZ (bQ (y6.au (ai w1 (.cells (cD rr.nr (ak oc rr.bq.length cc) rr.dO) 54))) (show∀fL xS,oc=U ⟨fL,xS,ab⟩->wr.heap.size<=fL/\fL<(w1.alloc (.cells (cD rr.nr (ak oc rr.bq.length cc) rr.dO) 54)).heap.size from fun fL xS e=>by have:=it fL xS e;rw[bA];omega))));have cS0:=block_lt_of_cell (aT _ _ 0 _ _ _ G.out.row:wr.cell? ⟨r9,0,ab⟩=U E);obtain⟨nr,cs,⟨rk,re⟩⟩:=rr;unfold cD at HD yD df qI⊢;simp only at HD yD df qI⊢;obtain⟨eq,d8,dh,dD,dz⟩:=S4;have Ex:(w1.alloc (.cells #[I R nr,ak oc cs.length cc,I R rk,I R re] 54)).cell? ⟨r9,0,ab⟩=U E:=aT _ _ 0 _ _ _ HD.out.row;have agj:=HD.out.lt;rw[bA]at agj;clear bb RK ho bc y6 it;go_wp2_with(first|(refine C3 _ (by rfl) _ _ _ (by rfl) (r9+1) 54 eq _ 4 48 underlying28 d8 dh dD dz J (by omega) E es.length (qH es) (by rfl) (yD.out.alloc _) ⟨w1.heap.size+1,0,ab⟩ 1 1 [I R nr,ak oc cs.length cc,I R rk,I R re] (by rfl) (by rfl) (lS (cs:=#[I R nr,ak oc cs.length cc,I R rk,I R re]) (t:=54) (fr:=(0,0)) (by have h:=a7 (w1.alloc (.cells #[I R nr,ak oc cs.length cc,I R rk,I R re] 54)) (.cells #[I R nr,ak oc cs.length cc,I R rk,I R re] 54);rwa[bA]at h)) (by simp[fG]) (by omega) (by simp only[maxLen];omega) (by omega) (by rw[bA,bA];omega) (w1.heap.size+2) (by simp) ?_;intro gg bS w2 du bU bE d6;have HG:=aa (bQ du (bQ bU (bQ bE d6)));have HW:=aa (HD.out.heap (Y:=w2) ⟨bU.os,bU.tape,bU.output⟩ (bL (ai _ _).size bU.size) (fun k z=>(bU.block k (by rw[bA,bA];omega) (fun e1=>by have:=(yD.out.lt k e1.symm).1;omega)).trans ((ai _ _).block k (by rw[bA];omega))));have jT:w2.cell? ⟨r9,0,ab⟩=U E:=aT _ _ 0 _ _ _ HW.out.row;have j7:w2.frozen? ⟨r9,0,ab⟩=false:=cy _ _ 0 _ _ HW.out.row;clear du bU bE d6));have dC:=aa (HW.out.set (ak (U ⟨gg,0,ab⟩) (es.length+1) bS));have eC:=aa (Dp (r:=r9) (V:=w2.setCell ⟨r9,0,ab⟩ (ak (U ⟨gg,0,ab⟩) (es.length+1) bS)) HG.out.1 (b4.set r9 0 w2 _) (by omega));have Pi:=aa (XV (e:=((⟨nr,cs,⟨rk,re⟩⟩:RL),oc,cc)) (gg:=gg) (n:=es.length+1) (cap:=bS) HK.out df.out ⟨Tz.out,qI.out.2.2.1,qI.out.1,qI.out.2.1,qI.out.2.2.2⟩ cS0 (fun k z=>(HO.out.lt k z).2) HG.out.2.1 (by rw[bA];exact HG.out.2.2.1) (w2.setCell ⟨r9,0,ab⟩ (ak (U ⟨gg,0,ab⟩) (es.length+1) bS)) (fun k z=>mV _ _ _ _ z) (b4.set r9 0 w2 _).size);have HI3:=aa (show jH (ls.tail.dropLast.take (i+1))=U ((es++[((⟨nr,cs,⟨rk,re⟩⟩:RL),oc,cc)]).map (·.1))by rw[j4.out,mU];rfl);have QK:=aa (show(es++[((⟨nr,cs,⟨rk,re⟩⟩:RL),oc,cc)]).length=i+1 by rw[cl,gH,Hm.out]);replace eC:Hid ((w2.setCell ⟨r9,0,ab⟩ (ak (U ⟨gg,0,ab⟩) (es.length+1) bS)).ownsRow (r9+1) 54 4 (ak (U ⟨gg,0,ab⟩) (es.length+1) bS) (es++[((⟨nr,cs,⟨rk,re⟩⟩:RL),oc,cc)]).length (qH (es++[((⟨nr,cs,⟨rk,re⟩⟩:RL),oc,cc)]))):=aa (by rw[cl,gH,Zr];exact eC.out);clear jT j7 Ex HG HW HD yD qI df;go_wp2;go_round;case rel=>exact⟨i+1,by omega,by omega,es++[((⟨nr,cs,⟨rk,re⟩⟩:RL),oc,cc)],_,dC,eC,Pi,HI3,QK⟩
     case measure=>simp[intOf];omega
  .have dV:i=n':=by omega
   have k4:=aa (show jH ls.tail.dropLast=U (es.map (·.1))by rw[<-HI.out,List.take_of_length_le (by rw[List.length_dropLast,C2,HN.out];omega)]);have j2:¬(i:Int)+1<(n':Int)+1:=by omega
   have c0:wr.cell? ⟨r9,0,ab⟩=U E:=aT _ _ 0 _ _ _ G.out.row;have c1:wr.cell? ⟨r9,1,ab⟩=U (I R aN):=aT _ _ 1 _ _ _ G.out.row;have c2:wr.cell? ⟨r9,2,ab⟩=U (I R aP):=aT _ _ 2 _ _ _ G.out.row;obtain⟨oc,cc,Cu,eW,jZ,NL⟩:=S3 HO.out HK.out;subst Cu;obtain⟨p,hp⟩:∃p:bj,p=⟨es.map (·.1),⟨aN,aP⟩⟩:=⟨_,J⟩;have ig:p.bw.length=es.length:=by rw[hp];simp
   have zI:=aa (show fc oc cc p wr from⟨by rw[hp];exact NL,by rw[ig];exact eW,jZ,by rw[hp];refine⟨fun r L=>?_,iU.out⟩;obtain⟨e,he,rfl⟩:=tU.1 L;exact(HK.out e he).1⟩);have pm:=akg p oc cc wr zI.out;have dm:p.bg.aF=aN:=by rw[hp]
   have iF:p.bg.aU=aP:=by rw[hp]
   unfold ep at pm;rw[ig,dm,iF]at pm;have LC:=aa hp;have Pd:=aa ig;clear dV am hi hp ig dm iF;obtain⟨f,M⟩:=af (cM p);rw[<-M]at pm;have HF:=aa M;clear M;go_wp2_with fail;refine pm.mono ?_;rintro e w1⟨rfl,bb⟩;have HD:=aa (G.out.au bb);have aft:=aa (zI.out.au bb);clear bb c0 c1 c2 pm;have aZ:=HD.out.base.ci;have ma:=HD.out.base.below;by_cases dn:f=0
   .have HV:=aa (show fR s=(p,0)by rw[nN.out,oF.out,k4.out];simp only;rw[if_pos (by rw[<-LC.out,<-HF.out];exact dn),<-LC.out]);subst dn;have c0:w1.cell? ⟨r9,0,ab⟩=U (ak oc es.length cc):=aT _ _ 0 _ _ _ HD.out.row;have c1:w1.cell? ⟨r9,1,ab⟩=U (I R aN):=aT _ _ 1 _ _ _ HD.out.row;have c2:w1.cell? ⟨r9,2,ab⟩=U (I R aP):=aT _ _ 2 _ _ _ HD.out.row;go_wp2_with(refine bK J 32 _ _ J w.heap.size #[ak oc es.length cc,I R aN,I R aP] J J 32 _ aZ pZ J (wV _ _ _ _ _) ?_);refine ba (v:=az #[aw #[ak oc es.length cc,I R aN,I R aP],I R 0]) (rh J _ _ w.heap.size #[ak oc es.length cc,I R aN,I R aP] _ J J J (aV _ _ _ _ _ _ aZ)) J ⟨⟨oc,cc,?_,?_⟩,below_setRow ma (aA _) _⟩;.rw[HV.out];unfold ep;simp only;rw[Pd.out,LC.out];rfl
    .rw[HV.out];exact aft.out.A1 aZ _
   .have HV:=aa (show fR s=(sb,4)by rw[nN.out,oF.out,k4.out];simp only;rw[if_neg (by rw[<-LC.out,<-HF.out];exact dn)]);have hf1:(0:Int)<f:=by omega
    clear dn;go_wp2_with(refine bK J 32 _ _ J w.heap.size #[ak ab 0 0,I R 0,I R 0] J J 32 _ aZ pZ J (wV _ _ _ _ _) ?_);refine ba (v:=az #[aw #[ak ab 0 0,I R 0,I R 0],I R 4]) (rh J _ _ w.heap.size #[ak ab 0 0,I R 0,I R 0] _ J J J (aV _ _ _ _ _ _ aZ)) J ⟨⟨ab,0,?_,?_⟩,below_setRow ma (aA _) _⟩;.rw[HV.out];rfl
    .rw[HV.out];exact s7 _
end Go.Proofs.YtefdakbahplnbaaGreatDoor
