/- The document's Say. -/
import Derived.Test.YtefdakbahplnbaaGreatDoorK37
import Derived.Test.YtefdakbahplnbaaGreatDoorK36
open Go.Proofs.Tryz
open And renaming intro->bQ
open Array renaming getElem?_eq_some_iff->bM
open ByteArray renaming size_append->ml
open Go renaming Calls->ap,Value->ag,World->ac,cell_of_row->aT,heap_alloc_new->a7,setRow_heap->aV
open Go.IntKind renaming i64->R,u64->ah,wrap_u64->jQ
open Go.Joins renaming ownsRow_form->vJ
open Go.Lib renaming decDigits->aQ,join->vy,join_cons->T6
open Go.Obj renaming cells->gX
open Go.Proofs.Tryz renaming prog->ae
open Go.RowKit.Below renaming refl->aS
open Go.Value renaming int->I,pointer->av,slice->ak,string->ad
open Go.World renaming ownsRow_nil->lj,size_alloc->bA
open Go.World.ownsRow renaming lt->xq
open List renaming getElem?_eq_getElem->cq,getElem?_eq_some_iff->pb,mem_of_getElem?->iy,take_length->sE,take_succ_cons->acr
open Nat renaming le_trans->bL,lt_succ_self->tV
open Option renaming none->ab,some->U
namespace Go.Proofs.YtefdakbahplnbaaGreatDoor
open Go.RowKit
variable{p:bj}{gd:Nat}{aE:PV}{d:bC}{E:Nat->ag}{ld:ag}{s:WS}{K:Nat}{X:ac}
theorem Vy(l:W8)(F:l.length<=9000)(w:ac):ap ae 19 #[ad (bs l)] w fun e w'=>e= .returned (.tuple #[I ah (bW l), .bool (cz l)])/\Below w.heap.size w w':=by have:=tz (bs l) (by rw[ct];omega) w;rw[fy]at this;exact this
theorem Pg{bp:W8}(h:iN bp=ab):hO p s bp=(s,nH 4):=by unfold hO;rw[h]
theorem Yj{bp:W8}{c:W8×List Nat×W8}(h:iN bp=U c):hO p s bp=Ld p s c.1 c.2.1 c.2.2:=by unfold hO;rw[h]
theorem en.oV{d':bC}{sv':Nat->ag}{wI:ag}{r:WS×W8}{K':Nat}{Y aK:ac}{B:ByteArray}(N:B=bs r.2)(F:en p gd aE d' sv' wI r.1 K' Y)(M:bi gd E ld sv' wI X Y)(hb:Below Y.heap.size Y aK)(z:K'<=K):Fz p gd aE E ld r K X (.returned (ad B)) aK:=⟨by rw[N],d',sv',wI,(F.au hb).cx z,M.trans (bi.bk _ _ hb)⟩
def z_(p:bj)(gd:Nat)(aE:PV)(E:Nat->ag)(ld:ag)(s:WS)(K:Nat)(r:Mm.MS×Nat)(X:ac)(e:Ending)(w':ac):Prop:=e= .returned (I R (r.2:Nat))/\∃d',en p gd aE d' E ld {s with mem:=r.1} K w'/\bi gd E ld E ld X w'
theorem en.me{m:Mm.MS}{aK:ac}(h:en p gd aE d E ld s K X)(hm:Vr.fD (LD gd aE d.T E ld) m aK)(hg:X.grownBy aK (U gd))(hh:Mm.pv s.mem m/\(Mm.nd s.mem->Mm.nd m)):en p gd aE {d with mem:=m} E ld {s with mem:=m} K aK:=⟨h.iQ.me hm hg,h.tie.me m,h.mc.mem hh,h.yg,h.pf,h.pk⟩
theorem an2(h:en p gd aE d E ld s K X)(a:Nat)(ha:a<18446744073709551616)(b:ByteArray)(hb:b.size<=1000):ap ae 22 #[av (U ⟨gd,3,ab⟩),I ah a,ad b] X fun e w'=>z_ p gd aE E ld s K (jw a b s.mem) X e w':=(Vr.ao4 h.iQ.mem a b ha hb).mono fun e w'⟨he,hD,hG⟩=>by rw[h.tie.mem]at he hD;exact⟨he,_,h.me hD hG (XP ha _ h.mc.lO.mem.uX),bi.grown _ _ hG⟩
theorem aeD(h:en p gd aE d E ld s K X)(n:Int)(b:Bool):ap ae 23 #[av (U ⟨gd,3,ab⟩),I R n, .bool b] X fun e w'=>z_ p gd aE E ld s K (jG n b s.mem) X e w':=(Vr.ac0 h.iQ.mem n b).mono fun e w'⟨he,hD,hG⟩=>by rw[h.tie.mem]at he hD;exact⟨he,_,h.me hD hG (aar _ _ _),bi.grown _ _ hG⟩
theorem aoW(h:en p gd aE d E ld s K X)(n:Int):ap ae 24 #[av (U ⟨gd,3,ab⟩),I R n] X fun e w'=>z_ p gd aE E ld s K (jK n s.mem) X e w':=(Vr.alI h.iQ.mem n).mono fun e w'⟨he,hD,hG⟩=>by rw[h.tie.mem]at he hD;exact⟨he,_,h.me hD hG (Vj _ _),bi.grown _ _ hG⟩
theorem aoH(h:en p gd aE d E ld s K X):ap ae 31 #[av (U ⟨gd,3,ab⟩)] X fun e w'=>z_ p gd aE E ld s K (s.mem,Mm.na s.mem 4) X e w':=(Vr.amt h.iQ.mem).mono fun e w'⟨he,hD,hG⟩=>by rw[h.tie.mem]at he hD;exact⟨he,_,h.me hD hG ⟨Mm.Jg _,id⟩,bi.grown _ _ hG⟩
theorem en.MV{Y aK:ac}{sv':Nat->ag}{wI:ag}(h:en p gd aE d E ld s K X)(M:bi gd E ld sv' wI Y aK){k:Nat}(q:X.heap.size<=k)(h2:k<Y.heap.size):aK.heap[k]?=Y.heap[k]?:=M.block k h2 (fun e=>by have:=h.iQ.gh;omega) (fun e=>by have:=(xq h.iQ.cW k e).2;omega) fun n u e=>by have:=(xq (h.iQ.oM n u) k e).2;omega
theorem aiE(h:en p gd aE d E ld s K X)(n:Int)(c:KL)(H:hc c):ap ae 25 #[av (U ⟨gd,0,ab⟩),I R n,cR c] X fun e w'=>e= .returned (I R ((iu n c s).2:Nat))/\∃d' sv',en p gd aE d' sv' ld (iu n c s).1 K w'/\bi gd E ld sv' ld X w':=(amC n c h.tie h.iQ).mono fun e w'⟨he,d',sv',q,h2,h3⟩=>⟨he,d',sv',⟨h2,q,⟨XT h.mc.lO _ H,by rw[KV];exact h.mc.aX,h.mc.ok.yQ (KV _ _ _)⟩,h.yg,h.pf,h.pk⟩,h3⟩
theorem afx{l:List Nat}(h:l.length=6):∃a b c d e f,l=[a,b,c,d,e,f]:=by match l,h with|[a,b,c,d,e,f],_=>exact⟨a,b,c,d,e,f,J⟩
theorem aoL{l:List Nat}(h:l.length=5):∃a b c d e,l=[a,b,c,d,e]:=by match l,h with|[a,b,c,d,e],_=>exact⟨a,b,c,d,e,J⟩
def tj(a b c d:Nat)(i:Nat):Nat:=if i=0 then a else if i=1 then b else if i=2 then c else d
theorem YC{a b c d:Nat}(ha:a<18446744073709551616)(hb:b<18446744073709551616)(H:c<18446744073709551616)(hd:d<18446744073709551616)(i:Nat):tj a b c d i<18446744073709551616:=by
 unfold tj;repeat' split
 all_goals assumption
theorem UA{l:List Nat}(h:l.length=2):∃a b,l=[a,b]:=by match l,h with|[a,b],_=>exact⟨a,b,J⟩
theorem aj2(gt:W8):∀(l:List W8)(i:Nat)(al:W8),l[i]?=U al->vy (l.take (i+1)) gt=(if i=0 then[]else vy (l.take i) gt++gt)++al|x::r,0,al,h=>by cases h;exact Lib.join_one _ _|x::r,k+1,al,h=>by rw[acr,acr,T6,T6,Lib.joinTail_take_succ gt r k al h,if_neg (by omega)];simp only[List.append_assoc]
theorem akB(x:W8)(r:List W8)(gt:W8)(h:x≠[]):vy (x::r) gt≠[]:=by rw[T6];exact fun e=>h (List.append_eq_nil_iff.1 e).1
theorem ael(e:EN):gV e≠[]:=by unfold gV;simp
theorem alv{W:ac}{v:ag}{l:List EN}(h:W.ownsRow 0 103 21 v l.length (gk l)):∃o cap,v=ak o l.length cap/\(0<l.length->∃b,o=U ⟨b,0,ab⟩/\b<W.heap.size/\∀i e,l[i]?=U e->W.rangeAt b (i*21) (gE e).toList):=by
 rcases h.2 with⟨rfl,h0⟩|⟨b,cap,co,rfl,-,eV,-,-,-,lA⟩;.exact⟨ab,0,by rw[h0],fun hi=>by omega⟩
 .refine⟨U ⟨b,0,ab⟩,cap,J,fun _=>⟨b,J,(bM.1 eV).1,fun i e he j v hv=>?_⟩⟩;have hi:i<l.length:=(pb.1 he).1;have hj:j<21:=(pb.1 hv).1;rw[aT _ _ _ _ _ _ eV];have q:=Tm l i e j he hj;rw[hv,<-lA,List.getElem?_take,if_pos (by omega)]at q;rw[<-Array.getElem?_toList];exact q
theorem akT{c:W8}{k:Nat}(h:lP c=U k):∃kn:Nat,kn<=6/\qF 2 c=kn:=by
 have z:k<=6:=by rcases Js h with h|h|h|h|h|h|h|h|h<;>omega
 rw[OJ h];split;.exact⟨2,by omega,J⟩
 .exact⟨k,z,J⟩
theorem aoA{bp c:W8}{r:List W8}(h:iN bp=if 300<bp.length then ab else nQ c r):(∃b:Bool,∃kn:Nat,kn<=6/\(b=false\/kn≠r.length\/300<bp.length)/\iN bp=ab/\(lP c).isSome=b/\qF 2 c=kn)\/(∃k:Nat,lP c=U k/\(lP c).isSome=true/\r.length<=6/\qF 2 c=r.length/\bp.length<=300):=by
 cases z:lP c with
  |none=>refine .inl ⟨false,0,by omega, .inl J,?_,J,by unfold qF;rw[z];rfl⟩;rw[h];unfold nQ;rw[z];split<;>rfl
  |some k=>
   obtain⟨kn,h6,c8⟩:=akT z;by_cases h3:300<bp.length;.exact .inl ⟨true,kn,h6, .inr (.inr h3),by rw[h,if_pos h3],J,c8⟩
   .by_cases bo:kn=r.length;.exact .inr ⟨k,J,J,by omega,by rw[c8,bo],by omega⟩
    .exact .inl ⟨true,kn,h6, .inr (.inl bo),by rw[h,if_neg h3];exact aea z (by rw[c8];omega),J,c8⟩
theorem aoS{l:List W8}{Q:List Nat}{x:W8}(h:jx l=U Q)(hx:cz x=true):jx (l++[x])=U (Q++[bW x]):=by rw[K2 l Q x [] h,if_pos hx];rfl
theorem V8{x:W8}(h:cz x=false):∀{l:List W8},x∈l->jx l=ab
 |al::l,hx=>by
  unfold jx;split
  .rcases List.mem_cons.1 hx with rfl|q;.rename_i hy;rw[h]at hy;cases hy
   .rw[V8 h q];rfl
  .rfl
theorem abY{w:ac}{base n m:Nat}{e t:TypeId}{ay v:ag}{xs ys:List ag}(h:w.ownsRow base e 1 v n xs)(k:w.ownsRow base t 1 ay m ys)(he:e≠t):v.ownBlock=ab\/v.ownBlock≠ay.ownBlock:=by
 cases hu:ay.ownBlock with
  |none=>cases v.ownBlock<;>simp
  |some b=>
   rcases k.2 with⟨rfl,_⟩|⟨g,cap,co,rfl,_,hg,_⟩;.cases hu
   .simp only[Value.ownBlock,Option.some.injEq]at hu;subst hu;exact .inr (Go.Lib.ownBlock_ne h hg he.symm)
set_option maxHeartbeats 8000000 in set_option maxRecDepth 20000 in theorem agf(h:en p gd aE d E ld s K X)(A:K<=200000)(bp:W8)(hl:bp.length<=400):ap ae 9 #[av (U ⟨gd,0,ab⟩),ad (bs bp)] X fun e w'=>Fz p gd aE E ld (hO p s bp) (K+1000) X e w':=by
 have o9:=JY (bs bp) (by rw[ct];omega) 32 32 J X;rw[fy]at o9;have e8:=Tc bp;have hr:=aa (show iN bp=if 300<bp.length then ab else nQ ((ck 32 bp).headD []) (ck 32 bp).tail from J);have kC:=aa (yd (c:=32) (l:=bp) (n:=400) hl);have cY:=yI (c:=32) bp;obtain⟨ws,JC⟩:=af (ck 32 bp);rw[<-JC]at o9 e8 hr kC cY;obtain⟨c,H⟩:=af (ws.headD []);obtain⟨r,L⟩:=af ws.tail;rw[<-H,<-L]at e8 hr;have rL:ws.length=r.length+1:=by rw[e8];rfl
 obtain⟨n,u⟩:=af r.length;rw[rL,<-u]at o9 cY;obtain⟨B,N⟩:=af (bs bp);have ks:B.size=bp.length:=by rw[N,ct]
 rw[<-N]at o9⊢;have HN:=aa u;have qz:=aa e8;have HS:=aa h;obtain⟨nm,qw⟩:=af (bs c);have kt:=aa qw;have di:=fun cv=>OH 4 (by omega) cv;have HFQ:=aa (show bs (nH 4)=bs (nH 4)from J);obtain⟨q4,xN⟩:=af (bs (nH 4));simp only[<-xN]at di;have qy:=aa xN;have D7:=@run_makeMap ae;clear JC H L rL u N e8 h qw xN HFQ;go_enter func9,ntmps9;go_wp2_with fail;refine o9.mono ?_;rintro e Y⟨⟨oa,cap,rfl,su,jZ,hI⟩,hY⟩;obtain⟨Vx,off,rfl,ds,dX⟩:=hI.ez (by rw[qz.out];simp);have x0:Y.cell? ⟨Vx,off,ab⟩=U (ad nm):=by have:=dX 0 c (by rw[qz.out];rfl);rw[kt.out];exact this
 have HI:=aa hI;have HY:=aa hY;have eM:(Y.alloc (.map #[] 0)).heap[Y.heap.size]?=U (.map #[] 0):=a7 _ _;have S:=aa (ai Y (.map #[] 0));have eS:=aa (show(Y.alloc (.map #[] 0)).heap.size=Y.heap.size+1 from bA ..);have xk:∀W,Below Y.heap.size Y W->W.cell? ⟨Vx,off,ab⟩=U (ad nm):=fun W hW=>ao hW x0;have fT:=xk _ S.out;have fv:=fun W(h:KW 2 Y.heap.size W)=>YF h c;rw[<-kt.out]at fv;have pl:=aa (bQ su jZ);have j4:=aa (fun W(hW:Below Y.heap.size Y W)(i:Nat)(x:W8)(hx:ws[i]?=U x)=>ao hW (dX i x hx));clear dX hY o9 hI x0 su jZ;have Ge:=aoA hr.out;rw[<-HN.out]at Ge;rcases Ge with⟨b,kn,Gj,hw,kX,c',kI⟩|⟨k,z,c',hn6,kI,hl3⟩
 .rw[c',kI]at fv;have E9:=aa (Pg (p:=p) (s:=s) kX);clear kX c' kI;have DL:∀aK,Below Y.heap.size Y aK->Fz p gd aE E ld (hO p s bp) (K+1000) X (.returned (ad q4)) aK:=fun aK hZ=>by rw[E9.out];exact en.oV qy.out (HS.out.au HY.out) (bi.bk _ _ HY.out) hZ (by omega)
  cases b with
   |false=>
    as_aux_lemma=>
     go_wp2_with first|(go_at_call 18;refine(di _).mono ?_;rintro e aK⟨rfl,hZ⟩;have HZ:=aa hZ;clear hZ)|(refine AD (by rfl) _ _ _ (by rfl) (by rfl) _ _ _ _ _ (by rfl) (by rfl) (by rfl) eM (by rfl) ?_;clear eM;intro w1 eM g8 j6;replace S:=aa (S.out.trans g8);replace eS:=aa (j6.trans eS.out);clear g8 j6 fT;have fT:=xk w1 S.out;first|(have Bt:=fv w1 eM)|skip)
     go_ret;exact DL _ (S.out.trans (HZ.out.mono (by have:=eS.out;omega)))
   |true=>
    by_cases bo:kn=n
    .subst bo;have IP:(300:Int)<bp.length:=by rcases hw with h|h|h<;>first|cases h|omega
     as_aux_lemma=>
      go_wp2_with first|(go_at_call 18;refine(di _).mono ?_;rintro e aK⟨rfl,hZ⟩;have HZ:=aa hZ;clear hZ)|(refine AD (by rfl) _ _ _ (by rfl) (by rfl) _ _ _ _ _ (by rfl) (by rfl) (by rfl) eM (by rfl) ?_;clear eM;intro w1 eM g8 j6;replace S:=aa (S.out.trans g8);replace eS:=aa (j6.trans eS.out);clear g8 j6 fT;have fT:=xk w1 S.out;first|(have Bt:=fv w1 eM)|skip)
      go_ret;exact DL _ (S.out.trans (HZ.out.mono (by have:=eS.out;omega)))
    .have apj:((n:Int)+1==(kn:Int)+1)=false:=by simp;omega
     as_aux_lemma=>
      go_wp2_with first|(go_at_call 18;refine(di _).mono ?_;rintro e aK⟨rfl,hZ⟩;have HZ:=aa hZ;clear hZ)|(refine AD (by rfl) _ _ _ (by rfl) (by rfl) _ _ _ _ _ (by rfl) (by rfl) (by rfl) eM (by rfl) ?_;clear eM;intro w1 eM g8 j6;replace S:=aa (S.out.trans g8);replace eS:=aa (j6.trans eS.out);clear g8 j6 fT;have fT:=xk w1 S.out;first|(have Bt:=fv w1 eM)|skip)
      go_ret;exact DL _ (S.out.trans (HZ.out.mono (by have:=eS.out;omega)))
 rw[c',kI]at fv;have S9:=aa (show iN bp=nQ c r by rw[hr.out,if_neg (by omega)]);have ux:¬(300:Int)<bp.length:=by omega
 have xN:¬300<B.size:=by omega
 have vQ:=aa (fun aK(hZ:Below Y.heap.size Y aK)=>bQ ((HS.out.au HY.out).au hZ) ((bi.bk (g:=gd) E ld HY.out).trans (bi.bk _ _ hZ)));by_cases hp:c=kf
 .subst hp;obtain rfl:nm=⟨#[112,117,116]⟩:=kt.out;have lM:n=2:=by rw[show qF 2 kf=2 from J]at kI;omega
  have h1n:1<n+1:=by omega
  have h2n:2<n+1:=by omega
  have dg:∃x1 x2,r=[x1,x2]:=by have:=HN.out;match r,this with|[x1,x2],_=>exact⟨x1,x2,J⟩|[],h=>rw[lM]at h;cases h|[_],h=>rw[lM]at h;cases h|_::_::_::_,h=>rw[lM]at h;cases h
  obtain⟨x1,x2,dg⟩:=dg;have jY:=aa (fun W hW=>j4.out W hW 1 x1 (by rw[qz.out,dg];rfl));have gv:=aa (fun W hW=>j4.out W hW 2 x2 (by rw[qz.out,dg];rfl));have dD:=kC.out x1 (by rw[qz.out,dg];simp);have dz:=kC.out x2 (by rw[qz.out,dg];simp);have c4:=Vy x1 (by omega);have ot:=aho (bs x2) (by rw[ct];omega);rw[fy]at ot;have Dn:=aa (S9.out.trans ((congrArg (nQ kf) dg).trans (amr x1 x2)));have hF:=wO x1;obtain⟨G5,tg⟩:=af (cz x1);obtain⟨gw,sp⟩:=af (bW x1);obtain⟨hx,Mv⟩:=af (iG x2);obtain⟨b1,bb⟩:=af (bs x1);obtain⟨b2,dB⟩:=af (bs x2);have Aq:∀b,hx=U b->b.length<=400:=fun b e=>bL (Pj (Mv.symm.trans e)) dz;rw[<-tg,<-sp,<-Mv]at Dn;rw[<-tg,<-sp,<-bb]at c4;rw[<-bb]at jY;rw[<-dB]at gv;rw[<-Mv,<-dB]at ot;rw[<-sp]at hF;clear tg sp Mv bb dB dg dD dz c' kI z j4 HI;by_cases eT:G5=true/\∃b,hx=U b
  .obtain⟨rfl,b,rfl⟩:=eT;have jS:=Aq b J;have kx:=aa (Yj (p:=p) (s:=s) (Dn.out.trans (by rw[if_pos J];rfl)));clear Dn Aq di qy;have HP:=fun W hW=>an2 (vQ.out W hW).1 gw hF (bs b) (by rw[ct];omega);have M:=Uc gw (bs b) s.mem;have bc:=aa (show hO p s bp=({s with mem:=(jw gw (bs b) s.mem).1},iZ (jw gw (bs b) s.mem).2)from kx.out);obtain⟨rr,jO⟩:=af (jw gw (bs b) s.mem);simp only[<-jO]at HP M bc;obtain⟨WP,jj⟩:=af (bs b);simp only[<-jj]at HP;have Up:bs ((U b).getD [])=WP:=jj.symm;rw[Up]at ot;obtain⟨rj,n6⟩:=af rr.2;simp only[<-n6]at bc M;have iC:=fun W=>Mw rj M W;obtain⟨sY,gy⟩:=af (bs (iZ rj));simp only[<-gy]at iC;unfold z_ at HP;simp only[<-n6]at HP;have pP:=aa gy;clear jO jj Up n6 gy kx;go_wp2_with first|(go_at_call 22;refine(HP Z2 gp.out).mono ?_;rintro e Z3⟨rfl,d3,jy,kv⟩;have vp:=aa jy;have sc:=aa ((vQ.out Z2 gp.out).2.trans kv);clear jy kv)|(go_at_call 21;refine(iC _).mono ?_;rintro e Z4⟨rfl,ix⟩;have pA:=aa ix;clear ix)|(go_at_call 19;refine(c4 _).mono ?_;rintro e Z1⟨rfl,eH⟩;have lg:=aa (S.out.trans (eH.mono (by have:=eS.out;omega)));have hy2:=gv.out Z1 lg.out;clear eH)|(go_at_call 20;refine(ot _).mono ?_;rintro e Z2⟨rfl,d9⟩;have gp:=aa (lg.out.trans (d9.mono lg.out.size));clear d9)|(refine AD (by rfl) _ _ _ (by rfl) (by rfl) _ _ _ _ _ (by rfl) (by rfl) (by rfl) eM (by rfl) ?_;clear eM;intro w1 eM g8 j6;replace S:=aa (S.out.trans g8);replace eS:=aa (j6.trans eS.out);clear g8 j6 fT;have fT:=xk w1 S.out;first|(have Bt:=fv w1 eM;have yy:=jY.out w1 S.out)|skip)
   go_ret;rw[bc.out];exact en.oV pP.out vp.out sc.out pA.out (by omega)
  .have E9:=aa (Pg (p:=p) (s:=s) (show iN bp=ab by
    rw[Dn.out];cases G5 with
     |false=>rfl
     |true=>
      cases hx with
       |none=>rfl
       |some b=>exact absurd ⟨J,b,J⟩ eT));cases G5 with
    |false=>
     as_aux_lemma=>
      go_wp2_with first|(go_at_call 18;refine(di _).mono ?_;rintro e aK⟨rfl,hZ⟩;have HZ:=aa (gp.out.trans (hZ.mono gp.out.size));clear hZ)|(go_at_call 19;refine(c4 _).mono ?_;rintro e Z1⟨rfl,eH⟩;have lg:=aa (S.out.trans (eH.mono (by have:=eS.out;omega)));have hy2:=gv.out Z1 lg.out;clear eH)|(go_at_call 20;refine(ot _).mono ?_;rintro e Z2⟨rfl,d9⟩;have gp:=aa (lg.out.trans (d9.mono lg.out.size));clear d9)|(refine AD (by rfl) _ _ _ (by rfl) (by rfl) _ _ _ _ _ (by rfl) (by rfl) (by rfl) eM (by rfl) ?_;clear eM;intro w1 eM g8 j6;replace S:=aa (S.out.trans g8);replace eS:=aa (j6.trans eS.out);clear g8 j6 fT;have fT:=xk w1 S.out;first|(have Bt:=fv w1 eM;have yy:=jY.out w1 S.out)|skip)
      go_ret;rw[E9.out];exact en.oV qy.out (vQ.out _ HZ.out).1 (vQ.out _ HZ.out).2 (aS _ _) (by omega)
    |true=>
     cases hx with
      |some b=>exact absurd ⟨J,b,J⟩ eT
      |none=>
       as_aux_lemma=>
        go_wp2_with first|(go_at_call 18;refine(di _).mono ?_;rintro e aK⟨rfl,hZ⟩;have HZ:=aa (gp.out.trans (hZ.mono gp.out.size));clear hZ)|(go_at_call 19;refine(c4 _).mono ?_;rintro e Z1⟨rfl,eH⟩;have lg:=aa (S.out.trans (eH.mono (by have:=eS.out;omega)));have hy2:=gv.out Z1 lg.out;clear eH)|(go_at_call 20;refine(ot _).mono ?_;rintro e Z2⟨rfl,d9⟩;have gp:=aa (lg.out.trans (d9.mono lg.out.size));clear d9)|(refine AD (by rfl) _ _ _ (by rfl) (by rfl) _ _ _ _ _ (by rfl) (by rfl) (by rfl) eM (by rfl) ?_;clear eM;intro w1 eM g8 j6;replace S:=aa (S.out.trans g8);replace eS:=aa (j6.trans eS.out);clear g8 j6 fT;have fT:=xk w1 S.out;first|(have Bt:=fv w1 eM;have yy:=jY.out w1 S.out)|skip)
        go_ret;rw[E9.out];exact en.oV qy.out (vQ.out _ HZ.out).1 (vQ.out _ HZ.out).2 (aS _ _) (by omega)
 .have qw:(nm.toList==[112,117,116])=false:=by rw[kt.out,lh];exact(TF _ _).trans (decide_eq_false hp)
  have c8:k=n:=by rw[OJ z,if_neg hp]at kI;omega
  have p7:=aa (S9.out.trans (adZ z hp (by rw[<-HN.out,c8])));have yx:=aa z;have qx:=aa c8;have DB:=fun x(hx:x.length<=400)W=>Vy x (by omega) W;clear c' kI z c8 hr S9 HI;go_wp2_with(refine AD (by rfl) _ _ _ (by rfl) (by rfl) _ _ _ _ _ (by rfl) (by rfl) (by rfl) eM (by rfl) ?_;clear eM;intro w1 eM g8 j6;replace S:=aa (S.out.trans g8);replace eS:=aa (j6.trans eS.out);clear g8 j6 fT;have fT:=xk w1 S.out;first|(have Bt:=fv w1 eM)|skip);clear eM Bt fT fv D7;go_loopw[13,14,15](fun br D C wr=>∃(i:Nat)(Q:List Nat),i<=n/\C=I R ((i:Int)+1)/\Hid (wr.ownsRow Y.heap.size 65 1 br Q.length (Q.map fun x=>I ah (x:Nat)))/\Hid (wr.ownsRow Y.heap.size 3 1 D Q.length (Q.map fun x=>I R (bD x:Nat)))/\Q.length=i/\Hid (jx (r.take i)=U Q)/\Hid (Below Y.heap.size Y wr))(fun _ _ C _=>n+1-(intOf C).toNat);case atStart=>exact⟨0,[],by omega,J,aa (lj _ _ _ _),aa (lj _ _ _ _),J,aa J,S⟩
  case round=>
   obtain⟨i,Q,hi,rfl,gI,eC,gT,nS,kA⟩:=hrel;clear S eS;by_cases am:i<n
   .obtain⟨x,hx⟩:∃x,r[i]?=U x:=⟨_,cq (by rw[<-HN.out];exact am)⟩;have m7:(i:Int)+1<(n:Int)+1:=by omega
    have ahL:=j4.out wr kA.out (i+1) x (by rw[qz.out];exact hx);have B9:x∈r:=iy hx;have HF:=DB x (kC.out x (by rw[qz.out];exact List.mem_cons_of_mem _ B9)) wr;have hfl:=wO x;obtain⟨G5,tg⟩:=af (cz x);obtain⟨gw,sp⟩:=af (bW x);obtain⟨fl,ce⟩:=af (bs x);obtain⟨pn,ig⟩:=af (bD gw);have al5:min (gw:Int) 2147483648=pn:=by rw[ig];unfold bD;omega
    have hp3:pn<=2147483648:=by rw[ig];unfold bD;omega
    rw[<-tg,<-sp,<-ce]at HF;rw[<-sp]at hfl;rw[<-ce]at ahL;cases G5 with
     |false=>
      as_aux_lemma=>
       have E9:=aa (Pg (p:=p) (s:=s) (show iN bp=ab by rw[p7.out,V8 tg.symm B9];rfl));clear tg sp ce ig;go_wp2_with first|(go_at_call 19;refine HF.mono ?_;rintro e Z1⟨rfl,eH⟩;have lg:=aa (kA.out.trans (eH.mono kA.out.size));clear eH)|(go_at_call 18;refine(di _).mono ?_;rintro e aK⟨rfl,hZ⟩;have HZ:=aa (lg.out.trans (hZ.mono lg.out.size));clear hZ)
       go_ret;rw[E9.out];exact en.oV qy.out (vQ.out _ HZ.out).1 (vQ.out _ HZ.out).2 (aS _ _) (by omega)
     |true=>
      as_aux_lemma=>
       have jn:=aa (show jx (r.take (i+1))=U (Q++[gw])by rw[List.take_add_one,hx,sp];exact aoS nS.out tg.symm);have Pd:=aa ig;clear tg sp ce ig p7;go_wp2_with first|(go_at_call 19;refine HF.mono ?_;rintro e Z1⟨rfl,eH⟩;have lg:=aa (kA.out.trans (eH.mono kA.out.size));replace gI:=aa (yY gI.out eH);replace eC:=aa (yY eC.out eH);clear eH)|(at_builtin;refine Yu (f:=fun x:Nat=>I ah (x:Nat)) 74 65 underlying74 (I ah 0) (by kernel_rfl) J (fun _=>J) J _ _ J Y.heap.size u13 Q ?_ (gI.out.alloc (gX #[I ah gw] 65)) Z1.heap.size gw ?_ (a7 _ _) (by omega) (bL lg.out.size (ai Z1 (gX #[I ah gw] 65)).size) ?_;(.rfl);(.rfl);intro v1 w1 gC sM;have gp:=aa ((lg.out.trans ((ai Z1 (gX #[I ah gw] 65)).mono lg.out.size)).grown sM (bL lg.out.size (ai Z1 (gX #[I ah gw] 65)).size) (fun k z=>(gI.out.lt k z).1));replace eC:=aa ((eC.out.alloc (gX #[I ah gw] 65)).kept sM (abY (eC.out.alloc (gX #[I ah gw] 65)) (gI.out.alloc (gX #[I ah gw] 65)) (by decide)));replace gI:=aa gC;clear gC sM)|(at_builtin;refine Yu (f:=fun x:Nat=>I R (bD x:Nat)) 89 3 underlying89 (I R 0) (by kernel_rfl) J (fun _=>J) J _ _ J Y.heap.size u14 Q ?_ (eC.out.alloc (gX #[I R pn] 3)) w1.heap.size gw ?_ (by show _=U (gX #[I R (bD gw:Nat)] _ _);rw[<-Pd.out];exact a7 _ _) (by omega) (bL gp.out.size (ai w1 (gX #[I R pn] 3)).size) ?_;(.rfl);(.rfl);intro v2 w2 dA hg2;have HZ3:=aa ((gp.out.trans ((ai w1 (gX #[I R pn] 3)).mono gp.out.size)).grown hg2 (bL gp.out.size (ai w1 (gX #[I R pn] 3)).size) (fun k z=>(eC.out.lt k z).1));replace gI:=aa ((gI.out.alloc (gX #[I R pn] 3)).kept hg2 (abY (gI.out.alloc (gX #[I R pn] 3)) (eC.out.alloc (gX #[I R pn] 3)) (by decide)));replace eC:=aa dA;clear dA hg2)
       go_round;case rel=>exact⟨i+1,Q++[gw],by omega,by go_num,gI,eC,by rw[List.length_append,gT];rfl,jn,HZ3⟩
       case measure=>simp[intOf];omega
   .obtain rfl:i=n:=by omega
    have m8:=nS.out;rw[HN.out,sE]at m8;have kx:=aa (Yj (p:=p) (s:=s) (p7.out.trans (by rw[m8];rfl)));obtain⟨GR,lM⟩:=KF m8;have x0:=xk wr kA.out;have iT:=vQ.out wr kA.out;have oT:=aa (show en p gd aE d E ld s K wr.drew/\bi gd E ld E ld X wr.drew from⟨iT.1.au (aS _ wr).drew,iT.2.trans (bi.bk _ _ (aS _ wr).drew)⟩);replace iT:=aa iT;have AJ:=aa (fun(aK:ac)(sv':Nat->ag)(wI:ag)(M:bi gd E ld sv' wI wr.drew aK)(k j:Nat)(v:ag)(q:Y.heap.size<=k)(h2:wr.drew.cell? ⟨k,j,ab⟩=U v)=>(dt (HS.out.MV M (bL HY.out.size q) (block_lt_of_cell h2)) j).trans h2);clear m8 DB p7 nS di qy j4 kC qz vQ xk pl qw cY ks hl3 xN ux hi am;rcases Js yx.out with⟨rfl,z⟩|⟨rfl,z⟩|⟨rfl,z⟩|⟨rfl,z⟩|⟨rfl,z⟩|⟨rfl,z⟩|⟨rfl,z⟩|⟨rfl,z⟩|⟨rfl,z⟩;.obtain rfl:nm=⟨#[109,97,112]⟩:=kt.out;obtain⟨y0,y1,rfl⟩:=UA (show Q.length=2 by have:=qx.out;omega);have O1:wr.ownsRow Y.heap.size 65 1 u13 2 [I ah (y0:Nat),I ah (y1:Nat)]:=gI.out;have O2:wr.ownsRow Y.heap.size 3 1 u14 2 [I R (bD y0:Nat),I R (bD y1:Nat)]:=eC.out;obtain⟨g1,c1,rfl⟩:=vJ O1 (by decide);obtain⟨g2,c2,rfl⟩:=vJ O2 (by decide);have HG:=aa (bQ (xq O1 g1 J).1 (xq O2 g2 J).1);have b1:wr.drew.cell? ⟨g1,1,ab⟩=U (I ah y1):=mq O1 (i:=1) J;have a0:wr.drew.cell? ⟨g2,0,ab⟩=U (I R (bD y0:Nat)):=mq O2 (i:=0) J;clear O1 O2 gI eC;have HP:=aeD oT.out.1 (bD y0) (decide (y1≠0));have M:=ab1 (bD y0) (decide (y1≠0)) s.mem;have bc:=aa (show hO p s bp=({s with mem:=(jG (bD y0) (decide (y1≠0)) s.mem).1},iZ (jG (bD y0) (decide (y1≠0)) s.mem).2)from kx.out);obtain⟨rr,jO⟩:=af (jG (bD y0) (decide (y1≠0)) s.mem);simp only[<-jO]at HP M bc;obtain⟨rj,n6⟩:=af rr.2;simp only[<-n6]at bc M;have iC:=fun W=>Mw rj M W;obtain⟨sY,gy⟩:=af (bs (iZ rj));simp only[<-gy]at iC;unfold z_ at HP;simp only[<-n6]at HP;have pP:=aa gy;obtain⟨p0,pN⟩:=af (bD y0);rw[<-pN]at HP a0;clear pN;clear jO n6 gy kx kt yx qx;rw[show decide (y1≠0)=decide (0<y1)by rw[Bool.eq_iff_iff];simp;omega]at HP;go_wp2_with fail;go_region_held3(fun w'=>w'.cell? ⟨g1,1,ab⟩=U (I ah y1)/\w'.cell? ⟨g2,0,ab⟩=U (I R p0))(first|(with_reducible exact⟨b1,a0⟩)|(with_reducible exact⟨r0,r1⟩)|(with_reducible exact⟨z0,z1⟩)|go_keep)((first|(go_at_call 23;with_reducible refine HP.mono ?_;rintro e Z3⟨rfl,d3,jy,kv⟩;have vp:=aa jy;have sc:=aa (oT.out.2.trans kv);have r0:=AJ.out _ _ _ kv _ _ _ HG.out.1 b1;have r1:=AJ.out _ _ _ kv _ _ _ HG.out.2 a0;clear jy kv)|(go_at_call 21;refine(iC _).mono ?_;rintro e Z4⟨rfl,ix⟩;have pA:=aa ix;have z0:=ao ix r0;have z1:=ao ix r1;clear ix)));all_goals go_wp2;go_ret;rw[bc.out];exact en.oV pP.out vp.out sc.out pA.out (by omega)
    .obtain rfl:nm=⟨#[117,110,109,97,112]⟩:=kt.out;obtain⟨y0,rfl⟩:=UW (show Q.length=1 by have:=qx.out;omega);have O1:wr.ownsRow Y.heap.size 65 1 u13 1 [I ah (y0:Nat)]:=gI.out;have O2:wr.ownsRow Y.heap.size 3 1 u14 1 [I R (bD y0:Nat)]:=eC.out;obtain⟨g1,c1,rfl⟩:=vJ O1 (by decide);obtain⟨g2,c2,rfl⟩:=vJ O2 (by decide);have HG:=aa (bQ (xq O1 g1 J).1 (xq O2 g2 J).1);have a0:wr.drew.cell? ⟨g2,0,ab⟩=U (I R (bD y0:Nat)):=mq O2 (i:=0) J;clear O1 O2 gI eC;have HP:=aoW oT.out.1 (bD y0);have M:=Yq (bD y0) s.mem;have bc:=aa (show hO p s bp=({s with mem:=(jK (bD y0) s.mem).1},iZ (jK (bD y0) s.mem).2)from kx.out);obtain⟨rr,jO⟩:=af (jK (bD y0) s.mem);simp only[<-jO]at HP M bc;obtain⟨rj,n6⟩:=af rr.2;simp only[<-n6]at bc M;have iC:=fun W=>Mw rj M W;obtain⟨sY,gy⟩:=af (bs (iZ rj));simp only[<-gy]at iC;unfold z_ at HP;simp only[<-n6]at HP;have pP:=aa gy;obtain⟨p0,pN⟩:=af (bD y0);rw[<-pN]at HP a0;clear pN;clear jO n6 gy kx kt yx qx;go_wp2_with fail;go_region_held3(fun w'=>w'.cell? ⟨g2,0,ab⟩=U (I R p0))(first|(with_reducible exact a0)|(with_reducible exact r0)|(with_reducible exact z0)|go_keep)((first|(go_at_call 24;with_reducible refine HP.mono ?_;rintro e Z3⟨rfl,d3,jy,kv⟩;have vp:=aa jy;have sc:=aa (oT.out.2.trans kv);have r0:=AJ.out _ _ _ kv _ _ _ HG.out.2 a0;clear jy kv)|(go_at_call 21;refine(iC _).mono ?_;rintro e Z4⟨rfl,ix⟩;have pA:=aa ix;have z0:=ao ix r0;clear ix)));all_goals go_wp2;go_ret;rw[bc.out];exact en.oV pP.out vp.out sc.out pA.out (by omega)
    .exact absurd J hp
    .obtain rfl:nm=⟨#[101,110,116,101,114]⟩:=kt.out;obtain⟨y0,y1,y2,y3,y4,y5,rfl⟩:=afx (show Q.length=6 by have:=qx.out;omega);have O1:wr.ownsRow Y.heap.size 65 1 u13 6 [I ah (y0:Nat),I ah (y1:Nat),I ah (y2:Nat),I ah (y3:Nat),I ah (y4:Nat),I ah (y5:Nat)]:=gI.out;have O2:wr.ownsRow Y.heap.size 3 1 u14 6 [I R (bD y0:Nat),I R (bD y1:Nat),I R (bD y2:Nat),I R (bD y3:Nat),I R (bD y4:Nat),I R (bD y5:Nat)]:=eC.out;obtain⟨g1,c1,rfl⟩:=vJ O1 (by decide);obtain⟨g2,c2,rfl⟩:=vJ O2 (by decide);have HG:=aa (bQ (xq O1 g1 J).1 (xq O2 g2 J).1);have a0:wr.drew.cell? ⟨g2,0,ab⟩=U (I R (bD y0:Nat)):=mq O2 (i:=0) J;have kH:hc (kj [y1,y2,y3,y4,y5]):=L3 fun i=>lM (i+1);have kO:=T9 y1 (tj y2 y3 y4 y5) (lM 1) (YC (lM 2) (lM 3) (lM 4) (lM 5)) g1 1 (c1-1) wr.drew (mq O1 (i:=1) J) (fun i hi=>by
      rcases(by omega:i=0\/i=1\/i=2\/i=3)with rfl|rfl|rfl|rfl;.exact mq O1 (i:=2) J
      .exact mq O1 (i:=3) J
      .exact mq O1 (i:=4) J
      .exact mq O1 (i:=5) J);obtain⟨kl,oI⟩:=af (kj [y1,y2,y3,y4,y5]);rw[show(⟨3221225534,min y1 4294967295,tj y2 y3 y4 y5 0,tj y2 y3 y4 y5 1,tj y2 y3 y4 y5 2,tj y2 y3 y4 y5 3⟩:KL)=kl from oI.symm]at kO;rw[<-oI]at kH;have fv:=aa (show 6<=c1 by
      rcases O1.2 with⟨h,_⟩|⟨g,cap,co,h,_,_,h2,_⟩;.cases h
      .cases h;exact h2);have hC:¬c1=1:=by have:=fv.out;omega
     have HP:=fun W hW=>aiE (oT.out.1.au (Y:=W) hW) (bD y0) kl kH;have M:=Uz (bD y0) kl s;have bc:=aa (show hO p s bp=((iu (bD y0) kl s).1,iZ (iu (bD y0) kl s).2)by rw[oI];exact kx.out);obtain⟨rr,jO⟩:=af (iu (bD y0) kl s);simp only[<-jO]at HP M bc;obtain⟨rj,n6⟩:=af rr.2;simp only[<-n6]at bc M HP;have iC:=fun W=>Mw rj M W;obtain⟨sY,gy⟩:=af (bs (iZ rj));simp only[<-gy]at iC;have pP:=aa gy;obtain⟨p0,pN⟩:=af (bD y0);simp only[<-pN]at HP a0;obtain⟨G7,sd⟩:=af (cR kl);simp only[<-sd]at HP kO;clear jO n6 gy pN sd oI kH kx kt yx qx O1 O2 gI eC;go_wp2_with fail;go_region_held3(fun w'=>w'.cell? ⟨g2,0,ab⟩=U (I R p0))(first|(with_reducible exact a0)|(with_reducible exact r0)|(with_reducible exact r1)|(with_reducible exact z0)|go_keep)((first|(go_at_call 26;(with_reducible refine kO.mono ?_);rintro e Z2⟨rfl,d9⟩;have gp:=aa d9;have r0:=ao d9 a0;clear d9)|(go_at_call 25;(with_reducible refine(HP _ gp.out).mono ?_);rintro e Z3⟨rfl,d3,sv3,jy,kv⟩;have vp:=aa jy;have sc:=aa ((oT.out.2.trans (bi.bk _ _ gp.out)).trans kv);have r1:=AJ.out _ _ _ ((bi.bk _ _ gp.out).trans kv) _ _ _ HG.out.2 a0;clear jy kv)|(go_at_call 21;with_reducible refine(iC _).mono ?_;rintro e Z4⟨rfl,ix⟩;have pA:=aa ix;have z0:=ao ix r1;clear ix)));all_goals go_wp2;go_ret;rw[bc.out];exact en.oV pP.out vp.out sc.out pA.out (by omega)
    .obtain rfl:nm=⟨#[106,117,100,103,101]⟩:=kt.out;obtain⟨y1,y2,y3,y4,y5,rfl⟩:=aoL (show Q.length=5 by have:=qx.out;omega);have O1:wr.ownsRow Y.heap.size 65 1 u13 5 [I ah (y1:Nat),I ah (y2:Nat),I ah (y3:Nat),I ah (y4:Nat),I ah (y5:Nat)]:=gI.out;obtain⟨g1,c1,rfl⟩:=vJ O1 (by decide);have kH:hc (kj [y1,y2,y3,y4,y5]):=L3 lM;have kO:=fun(W:ac)(hW:Below wr.heap.size wr W)=>T9 y1 (tj y2 y3 y4 y5) (lM 0) (YC (lM 1) (lM 2) (lM 3) (lM 4)) g1 0 c1 W (ao hW (mq O1 (i:=0) J)) (fun i hi=>by
      rcases(by omega:i=0\/i=1\/i=2\/i=3)with rfl|rfl|rfl|rfl;.exact ao hW (mq O1 (i:=1) J)
      .exact ao hW (mq O1 (i:=2) J)
      .exact ao hW (mq O1 (i:=3) J)
      .exact ao hW (mq O1 (i:=4) J));obtain⟨kl,oI⟩:=af (kj [y1,y2,y3,y4,y5]);simp only[show(⟨3221225534,min y1 4294967295,tj y2 y3 y4 y5 0,tj y2 y3 y4 y5 1,tj y2 y3 y4 y5 2,tj y2 y3 y4 y5 3⟩:KL)=kl from oI.symm]at kO;rw[<-oI]at kH;have wh:=iT.out.1.yg;have HJ:=fun(W:ac)(hW:Below wr.heap.size wr W)=>Vd aE.p (by rw[wh];exact iT.out.1.pk) aE.oa aE.cap kl kH W ((iT.out.1.iQ.SF).au hW);have bc:=aa (show hO p s bp=(s,pq (eA aE.p kl))by rw[oI,wh];exact kx.out);have mN:=aa5 iT.out.1.pf kl;rw[<-wh]at mN;have c0:wr.drew.cell? ⟨gd,0,ab⟩=U (ak aE.oa aE.p.bw.length aE.cap):=oT.out.1.iQ.cell 0 (by omega) (.inl (by omega));have y7:wr.drew.cell? ⟨gd,1,ab⟩=U (I R aE.p.bg.aF):=oT.out.1.iQ.cell 1 (by omega) (.inl (by omega));have c2:wr.drew.cell? ⟨gd,2,ab⟩=U (I R aE.p.bg.aU):=oT.out.1.iQ.cell 2 (by omega) (.inl (by omega));obtain⟨S6,Io⟩:=af (eA aE.p kl);simp only[<-Io]at HJ bc mN;obtain⟨⟨rF,vZ⟩,rK⟩:=S6;unfold sZ fV ep at HJ;simp only at HJ;obtain⟨pn,ig⟩:=af aE.p.bw.length;obtain⟨pk,dm⟩:=af aE.p.bg.aF;obtain⟨pe,iF⟩:=af aE.p.bg.aU;simp only[<-ig,<-dm,<-iF]at HJ;rw[<-ig]at c0;rw[<-dm]at y7;rw[<-iF]at c2;obtain⟨G7,sd⟩:=af (cR kl);simp only[<-sd]at HJ kO;have kb:=fun{b o v}(H:wr.cell? ⟨b,o,ab⟩=U v)=>(show(wr.alloc (.cells #[I R 0,I R 0,I R 0] 95)).drew.cell? ⟨b,o,ab⟩=U v from ao (ai wr (.cells #[I R 0,I R 0,I R 0] 95)).drew H);have y0:=kb c0;have QJ:=kb y7;have DS:=kb c2;have hs:gd<wr.heap.size:=iT.out.1.iQ.gh;have zb:(wr.alloc (.cells #[I R 0,I R 0,I R 0] 95)).drew.heap[wr.heap.size]?=U (.cells #[I R 0,I R 0,I R 0] 95 (0,0)):=a7 wr _;have dW:gd≠wr.heap.size:=Nat.ne_of_lt hs;clear Io ig dm iF sd oI kH wh kx kt yx qx O1 gI eC kb lM GR AJ;go_wp2_with fail;go_cut[18](fun eG wc=>∃r5:Nat,eG=av (U ⟨r5,0,ab⟩)/\Hid (Below wr.heap.size wr wc)/\Hid (wc.heap[r5]?=U (.cells #[I R rF,I R vZ,I R rK] 95 (0,0))));case first=>as_aux_lemma=>go_region_held3(fun w'=>w'.cell? ⟨gd,0,ab⟩=U (ak aE.oa pn aE.cap)/\w'.cell? ⟨gd,1,ab⟩=U (I R pk)/\w'.cell? ⟨gd,2,ab⟩=U (I R pe))(first|(with_reducible exact⟨c0,y7,c2⟩)|(with_reducible exact⟨y0,QJ,DS⟩)|(with_reducible exact⟨q0,q1,q2⟩)|(with_reducible exact⟨r0,r1,r2⟩)|(with_reducible exact⟨ao (ai wr.drew _) c0,ao (ai wr.drew _) y7,ao (ai wr.drew _) c2⟩)|(with_reducible exact⟨ao (ai Z2 _) q0,ao (ai Z2 _) q1,ao (ai Z2 _) q2⟩)|(with_reducible exact⟨ao (ai Z3 _) r0,ao (ai Z3 _) r1,ao (ai Z3 _) r2⟩)|(with_reducible exact⟨fB dW r0,fB dW r1,fB dW r2⟩)|(with_reducible exact⟨fB BL r0,fB BL r1,fB BL r2⟩)|go_keep)((first|(go_at_call 26;with_reducible refine(kO wr.drew (aS _ wr).drew).mono ?_;rintro e Z2⟨rfl,d9⟩;have gp:=aa (ax (aS _ wr).drew d9);have q0:=ao d9 c0;have q1:=ao d9 y7;have q2:=ao d9 c2;clear d9)|(go_at_call 26;refine(kO (wr.alloc (.cells #[I R 0,I R 0,I R 0] 95)).drew (ai wr (.cells #[I R 0,I R 0,I R 0] 95)).drew).mono ?_;rintro e Z2⟨rfl,d9⟩;have gp:=aa (ax (ai wr (.cells #[I R 0,I R 0,I R 0] 95)).drew d9);have q0:=ao d9 y0;have q1:=ao d9 QJ;have q2:=ao d9 DS;have Wv:=(d9.block wr.heap.size (by show _<(wr.alloc _).heap.size;rw[bA];exact tV _)).trans zb;clear d9)|(go_at_call 27;with_reducible refine(HJ Z2 gp.out).mono ?_;rintro e Z3⟨rfl,qS⟩;have S:=aa (ax gp.out qS);have r0:=ao qS q0;have r1:=ao qS q1;have r2:=ao qS q2;first|(have uh:=(qS.block wr.heap.size (bM.1 Wv).1).trans Wv;obtain⟨⟨p0,p1,p2⟩,f0,f1,f2⟩:=GK uh;clear qS)|clear qS)|(go_at_call 27;refine(HJ (Z2.alloc (.cells #[I R 0,I R 0,I R 0] 95)) (ax gp.out (ai Z2 (.cells #[I R 0,I R 0,I R 0] 95)))).mono ?_;rintro e Z3⟨rfl,qS⟩;have S:=aa (ax (ax gp.out (ai Z2 (.cells #[I R 0,I R 0,I R 0] 95))) qS);have r0:=ao qS (ao (ai Z2 (.cells #[I R 0,I R 0,I R 0] 95)) q0);have r1:=ao qS (ao (ai Z2 (.cells #[I R 0,I R 0,I R 0] 95)) q1);have r2:=ao qS (ao (ai Z2 (.cells #[I R 0,I R 0,I R 0] 95)) q2);have BL:gd≠Z2.heap.size:=(by have:=gp.out.size;omega);have MP:=(qS.block Z2.heap.size (by show _<(Z2.alloc _).heap.size;rw[bA];exact tV _)).trans (a7 Z2 _);obtain⟨⟨p0,p1,p2⟩,f0,f1,f2⟩:=GK MP;clear qS)));all_goals go_wp2_with fail;go_meet;case rel=>first|with_reducible exact⟨Z3.heap.size,J,aa (ax S.out (ai _ _)),aa (a7 _ _)⟩|exact⟨wr.heap.size,J,aa (by rw[wK uh];exact below_setRow S.out (Nat.le_refl _) _),aa (by rw[wK uh];exact aV _ _ _ _ _ _ uh)⟩|exact⟨Z2.heap.size,J,aa (by rw[wK MP];exact below_setRow S.out gp.out.size _),aa (by rw[wK MP];exact aV _ _ _ _ _ _ MP)⟩
     case rest=>
      as_aux_lemma=>
       obtain⟨r5,rfl,S,HR⟩:=hcut;have d0:wc.cell? ⟨r5,0,ab⟩=U (I R rF):=aT _ _ 0 _ _ _ HR.out;have d1:wc.cell? ⟨r5,1,ab⟩=U (I R vZ):=aT _ _ 1 _ _ _ HR.out;have d2:wc.cell? ⟨r5,2,ab⟩=U (I R rK):=aT _ _ 2 _ _ _ HR.out;clear c0 y7 c2 y0 QJ DS zb kO HJ;obtain⟨oD,xv⟩:=mN;simp only at oD xv;by_cases h4:rF=4
       .have HI:=fun W=>D6 rK (by omega) W;have F:=AM (show rK<18446744073709551616 by omega);have HQ:=aa (show⟨#[116,114,97,99,101,32]⟩++bs (aQ rK)=bs (pq (⟨rF,vZ⟩,rK))by unfold pq;rw[if_pos h4];exact b7 [116,114,97,99,101,32] _);obtain⟨sY,gy⟩:=af (bs (aQ rK));simp only[<-gy]at HI HQ F;have jz:ah.wrap (rK:Int)=rK:=by rw[jQ];omega
        have xP:(rF:Int)=4:=by omega
        clear gy oD;go_wp2_with(go_at_call 28;with_reducible refine(HI _).mono ?_;rintro e Z4⟨rfl,ix⟩;have pA:=aa (ax S.out ix);clear ix);go_ret;rw[bc.out];exact en.oV (by rw[<-HQ.out]) iT.out.1 iT.out.2 pA.out (by omega)
       .have HI:=fun W=>acN ⟨rF,vZ⟩ (oD.resolve_left h4) W;have HQ:=aa (show bs (cr 32 (e3 ⟨rF,vZ⟩))=bs (pq (⟨rF,vZ⟩,rK))by unfold pq;rw[if_neg h4]);obtain⟨sY,gy⟩:=af (bs (cr 32 (e3 ⟨rF,vZ⟩)));simp only[<-gy]at HI HQ;unfold fe at HI;simp only at HI;have xP:¬(rF:Int)=4:=by omega
        clear gy oD;go_wp2_with(go_at_call 29;with_reducible refine(HI _).mono ?_;rintro e Z4⟨rfl,ix⟩;have pA:=aa (ax S.out ix);clear ix);go_ret;rw[bc.out];exact en.oV HQ.out iT.out.1 iT.out.2 pA.out (by omega)
    .obtain rfl:nm=⟨#[115,116,101,112]⟩:=kt.out;obtain⟨y0,y1,rfl⟩:=UA (show Q.length=2 by have:=qx.out;omega);have O2:wr.ownsRow Y.heap.size 3 1 u14 2 [I R (bD y0:Nat),I R (bD y1:Nat)]:=eC.out;obtain⟨g2,c2,rfl⟩:=vJ O2 (by decide);have HG:=aa (xq O2 g2 J).1;have a0:wr.drew.cell? ⟨g2,0,ab⟩=U (I R (bD y0:Nat)):=mq O2 (i:=0) J;have bR:wr.drew.cell? ⟨g2,1,ab⟩=U (I R (bD y1:Nat)):=mq O2 (i:=1) J;have HP:=ajv oT.out.1 (by omega) (bD y0) (bD y1);have bc:=aa (show hO p s bp=oJ p (bD y0) (min (bD y1) 1000) 0 s from kx.out);obtain⟨bd,hR⟩:=af (oJ p (bD y0) (min (bD y1) 1000) 0 s);rw[<-hR]at HP bc;obtain⟨p0,pN⟩:=af (bD y0);obtain⟨p1,PR⟩:=af (bD y1);rw[<-pN,<-PR]at HP;rw[<-pN]at a0;rw[<-PR]at bR;unfold Fz at HP;obtain⟨sY,gy⟩:=af (bs bd.2);rw[<-gy]at HP;have pP:=aa gy;clear hR pN PR gy kx kt yx qx O2 gI eC;go_wp2_with fail;go_region_held3(fun w'=>w'.cell? ⟨g2,0,ab⟩=U (I R p0)/\w'.cell? ⟨g2,1,ab⟩=U (I R p1))(first|(with_reducible exact⟨a0,bR⟩)|(with_reducible exact⟨r0,r1⟩)|go_keep)((first|(go_at_call 30;with_reducible refine HP.mono ?_;rintro e Z3⟨rfl,d3,sv3,ld3,jy,kv⟩;have vp:=aa jy;have sc:=aa (oT.out.2.trans kv);have r0:=AJ.out _ _ _ kv _ _ _ HG.out a0;have r1:=AJ.out _ _ _ kv _ _ _ HG.out bR;clear jy kv)));all_goals go_wp2;go_ret;rw[bc.out];exact en.oV pP.out vp.out sc.out (aS _ _) (by omega)
    .obtain rfl:nm=⟨#[112,104,97,115,101]⟩:=kt.out;obtain⟨y0,rfl⟩:=UW (show Q.length=1 by have:=qx.out;omega);have O2:wr.ownsRow Y.heap.size 3 1 u14 1 [I R (bD y0:Nat)]:=eC.out;obtain⟨g2,c2,rfl⟩:=vJ O2 (by decide);have HG:=aa (xq O2 g2 J).1;have fE:wr.cell? ⟨g2,0,ab⟩=U (I R (bD y0:Nat)):=mq O2 (i:=0) J;have a0:wr.drew.cell? ⟨g2,0,ab⟩=U (I R (bD y0:Nat)):=fE;have bc:=aa (show hO p s bp=(s,aQ (mr (bD y0) s))from kx.out);obtain⟨p0,pN⟩:=af (bD y0);rw[<-pN]at a0 fE bc;clear pN kx kt yx qx O2 gI eC;by_cases h3:p0<3
     .have h3':¬(2:Int)<p0:=by omega
      have h3i:(p0:Int)<3:=by omega
      have bv:=oT.out.1.iQ.phase p0 h3;rw[(oT.out.1.tie.cg p0 h3).phase]at bv;rw[show mr p0 s=(s.T p0).phase by unfold mr;rw[if_pos ⟨by omega,by omega⟩,Int.toNat_natCast]]at bc;have h6:=(oT.out.1.mc.lO.cg p0 h3).ph;have HI:=fun W=>D6 (s.T p0).phase (by omega) W;obtain⟨ph,EY⟩:=af (s.T p0).phase;rw[<-EY]at bv bc h6;simp only[<-EY]at HI;obtain⟨sY,gy⟩:=af (bs (aQ ph));simp only[<-gy]at HI;have pP:=aa gy;have sh:ah.wrap (ph:Int)=ph:=by rw[jQ];omega
      clear EY gy;as_aux_lemma=>go_wp2_with fail;go_region_held3(fun w'=>w'.cell? ⟨g2,0,ab⟩=U (I R p0)/\w'.cell? ⟨gd,783+p0*31,ab⟩=U (I R ph))(first|(with_reducible exact⟨a0,bv⟩)|(with_reducible exact⟨r0,r1⟩)|go_keep)((first|(go_at_call 28;with_reducible refine(HI _).mono ?_;rintro e Z4⟨rfl,ix⟩;have pA:=aa ix;have r0:=ao ix a0;have r1:=ao ix bv;clear ix)));all_goals go_wp2;go_ret;rw[bc.out];exact en.oV pP.out oT.out.1 oT.out.2 pA.out (by omega)
     .have h3':(2:Int)<p0:=by omega
      rw[show mr p0 s=6 by unfold mr;rw[if_neg (by omega)]]at bc;have pP:=aa (show(⟨#[54]⟩:ByteArray)=bs (aQ 6)by rw[ZB (by decide:6<10)];rfl);as_aux_lemma=>go_wp2_with fail;go_ret;rw[bc.out];exact en.oV pP.out iT.out.1 iT.out.2 (aS _ _) (by omega)
    .obtain rfl:nm=⟨#[115,101,97,108,101,100]⟩:=kt.out;have HP:=aoH iT.out.1;have bc:=aa (show hO p s bp=(s,aQ (Mm.na s.mem 4))from kx.out);have h8:=Mm.Me s.mem 4;have HI:=fun W=>D6 (Mm.na s.mem 4) (by omega) W;obtain⟨ph,EY⟩:=af (Mm.na s.mem 4);simp only[<-EY]at HI HP bc h8;obtain⟨sY,gy⟩:=af (bs (aQ ph));simp only[<-gy]at HI;have pP:=aa gy;unfold z_ at HP;clear EY gy kx kt yx qx gI eC;go_wp2_with first|(go_at_call 31;with_reducible refine HP.mono ?_;rintro e Z3⟨rfl,d3,jy,kv⟩;have vp:=aa jy;have sc:=aa (iT.out.2.trans kv);clear jy kv)|(go_at_call 28;with_reducible refine(HI _).mono ?_;rintro e Z4⟨rfl,ix⟩;have pA:=aa ix;clear ix)
     go_ret;rw[bc.out];exact en.oV pP.out vp.out sc.out pA.out (by omega)
    .obtain rfl:nm=⟨#[108,111,103]⟩:=kt.out;have bc:=aa (show hO p s bp=(s,yA s.aX)from kx.out);have hl:=iT.out.1.mc.aX;have Y9:=aa (fun e(he:e∈s.aX)=>aaf iT.out.1.mc.lO iT.out.1.mc.ok he);have ho:=iT.out.1.iQ.cW;rw[iT.out.1.tie.aX]at ho;obtain⟨o,apy,Kn,yc⟩:=alv ho;have c0:=iT.out.1.iQ.D4;obtain⟨l,lT⟩:=af s.aX;rw[<-lT]at hl ho Kn yc;simp only[<-lT]at Y9;rw[<-lT]at bc;obtain⟨bu,hN⟩:=af l.length;rw[<-hN]at hl Kn yc;rw[Kn]at c0;have ff:=aa hN;have KK:=aa yc;clear lT Kn ho hN yc kx kt yx qx gI eC AJ GR lM;go_wp2_with fail;go_loopw[19,20](fun br aL wx=>∃(i:Nat)(B:ByteArray),i<=bu/\br=ad B/\aL=I R i/\Hid (B=bs (vy ((l.map gV).take i) [44,32]))/\B.size<=i*13002/\Hid (Below wr.heap.size wr wx))(fun _ aL _=>bu-(intOf aL).toNat);case atStart=>exact⟨0,⟨#[]⟩,by omega,J,J,aa J,Nat.zero_le _,aa (aS _ _)⟩
     case round=>
      obtain⟨i2,q2,Eq,rfl,rfl,oo,DZ,df⟩:=hrel;have c2:=ao df.out c0;by_cases am:i2<bu
      .obtain⟨b,rfl,jS,ub⟩:=KK.out (by omega);obtain⟨e,k7⟩:∃e,l[i2]?=U e:=⟨_,cq (by rw[<-ff.out];exact am)⟩;have nv:wr.rangeAt b (i2*21) (gE e).toList:=fun j v hv=>ao df.out (ub i2 e k7 j v hv);have bh:=Y9.out e (iy k7);have j3:=aes e bh wr;have ro:=Vf bh;have Fd:=aj2 [44,32] (l.map gV) i2 (gV e) (by rw[List.getElem?_map,k7];rfl);obtain⟨br,hA⟩:=af (gE e);rw[<-hA]at nv j3;have lF:br.toList.length=21:=by rw[hA];rfl
       have Lp:br.toList.toArray=br:=by simp
       obtain⟨al,hy⟩:=af (bs (gV e));have yX:al.size<=13000:=by rw[hy,ct];exact ro
       rw[<-hy]at j3;have xT:(i2:Int)<bu:=by omega
       by_cases h0:i2=0
       .rw[if_pos h0]at Fd;have TJ:=aa (show q2++al=bs (vy ((l.map gV).take (i2+1)) [44,32])by rw[Fd,oo.out,hy,h0];exact b7 [] _);have KM:¬(0:Int)<i2:=by omega
        clear Fd k7 hy hA bh ro ub h0;as_aux_lemma=>
         go_wp2_with(first|(refine wpList_load_mid J 103 _ J b (i2*21) J br.toList _ nv underlying103 J (by rw[lF];exact Nr) ?_;rw[Lp])|(go_at_call 32;with_reducible refine j3.mono ?_;rintro x aK⟨rfl,hZ⟩;have HZ:=aa (ax df.out hZ);clear hZ));go_round;case rel=>exact⟨i2+1,q2++al,by omega,J,by go_num,TJ,by rw[ml];omega,HZ⟩
         case measure=>simp[intOf];omega
       .rw[if_neg h0]at Fd;have TJ:=aa (show q2++⟨#[44,32]⟩++al=bs (vy ((l.map gV).take (i2+1)) [44,32])by rw[Fd,oo.out,hy,<-b7,<-b7];rfl);have KM:(0:Int)<i2:=by omega
        clear Fd k7 hy hA bh ro ub h0;as_aux_lemma=>
         go_wp2_with(first|(refine wpList_load_mid J 103 _ J b (i2*21) J br.toList _ nv underlying103 J (by rw[lF];exact Nr) ?_;rw[Lp])|(go_at_call 32;with_reducible refine j3.mono ?_;rintro x aK⟨rfl,hZ⟩;have HZ:=aa (ax df.out hZ);clear hZ));go_round;case rel=>exact⟨i2+1,q2++⟨#[44,32]⟩++al,by omega,J,by go_num,TJ,by rw[ml,ml];show q2.size+2+al.size<=_;omega,HZ⟩
         case measure=>simp[intOf];omega
      .obtain rfl:i2=bu:=by omega
       have xT:¬(i2:Int)<i2:=by omega
       have qy:=oo.out;rw[show(l.map gV).take i2=l.map gV by rw[ff.out,<-List.length_map (f:=gV)];exact sE]at qy;by_cases h0:i2=0
       .have l6:l=[]:=List.eq_nil_of_length_eq_zero (by rw[<-ff.out];exact h0);rw[l6]at qy bc;have PK:(q2.toList==[])=true:=by rw[qy,lh];rfl
        clear qy l6;as_aux_lemma=>go_wp2_with fail;go_ret;rw[bc.out];exact en.oV J iT.out.1 iT.out.2 df.out (by omega)
       .obtain⟨e1,r1,Sc⟩:∃e r,l=e::r:=by
         cases l with
          |nil=>exact absurd ff.out h0
          |cons e r=>exact⟨e,r,J⟩
        have PK:(q2.toList==[])=false:=by rw[qy,lh,Sc];exact(TF _ _).trans (decide_eq_false (akB _ _ _ (ael e1)))
        have HQ5:=aa (show q2=bs (yA l)by rw[qy];unfold yA;rw[if_neg (by rw[<-ff.out];exact h0)]);clear qy Sc;as_aux_lemma=>go_wp2_with fail;go_ret;rw[bc.out];exact en.oV HQ5.out iT.out.1 iT.out.2 df.out (by omega)
end Go.Proofs.YtefdakbahplnbaaGreatDoor
