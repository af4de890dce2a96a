/- The walk of the document's single. -/
import Derived.Test.YtefdakbahplnbaaGreatDoorK12
open Go.Proofs.Tryz
open Bool renaming and_eq_false_iff->FG,and_eq_true->lR,eq_iff_iff->fs
open Go renaming Calls->ap,Oper->bz,Value->ag,World->ac,cell_of_row->aT,heap_alloc_new->a7
open Go.Ending renaming returned->aq
open Go.IntKind renaming i64->R
open Go.Lib renaming extract_data->xd
open Go.Proofs.Tryz renaming prog->ae
open Go.RowKit.Below renaming refl->aS
open Go.Value renaming bool->aH,int->I,slice->ak,string->ad,tuple->az
open List renaming getD_eq_getElem?_getD->cI,getElem?_append_left->vG,getElem?_append_right->vF
open Nat renaming le_refl->aA,le_trans->bL
open Option renaming map->TT,map_some->xg,none->ab,some->U
open Option.some renaming injEq->cm
open Prod.mk renaming injEq->eg
namespace Go.Proofs.YtefdakbahplnbaaGreatDoor.Gl
open Go.RowKit
theorem Rz{fu:Nat}{s:ByteArray}{i e:Nat}{g jW:Nat->Bool}(h:db (fu+1) s i g=U (e,jW)):(i=e/\g=jW/\¬(i<s.size/\aqh s i≠93))\/(i<s.size/\aqh s i≠93/\eb s i≠0/\db fu s (i+eb s i) (tc g (aqh s i) (aqh s (i+eb s i-1)))=U (e,jW)):=by
 rw[db]at h;split at h
 .rename_i H;split at h;.simp at h
  .rename_i hm;exact .inr ⟨H.1,H.2,hm,h⟩
 .rename_i H;simp only[cm,eg]at h;exact .inl ⟨h.1,h.2,H⟩
theorem KN:∀(k:Nat)(s:ByteArray)(i:Nat)(g:Nat->Bool)(e:Nat)(jW:Nat->Bool),db k s i g=U (e,jW)->i<=e/\¬(e<s.size/\aqh s e≠93)
 |0,_,_,_,_,_,h=>by simp[db]at h
 |k+1,s,i,g,e,jW,h=>by
  rcases Rz h with⟨rfl,_,u⟩|⟨_,_,_,h'⟩;.exact⟨aA _,u⟩
  .have:=KN k s _ _ e jW h';exact⟨by omega,this.2⟩
theorem alK{s:ByteArray}{f:Nat->Bool}{n:Nat}(F:1<=s.size)(h:e4 s=U (f,n)):∃e jW,db (s.size+1) s (g' s) (fun _=>false)=U (e,jW)/\n=e+1/\g' s<e/\e<s.size/\aqh s e=93/\f=cS (if kT s=true then fun i=>!jW i else jW) 47 false:=by
 unfold e4 at h;cases cX:db (s.size+1) s (g' s) fun _=>false with
  |none=>simp[cX,f_]at h
  |some al=>
   obtain⟨e,jW⟩:=al;have hb:g' s<=s.size:=by
    unfold g' kT;split;.rename_i hh;simp at hh;omega
    .omega
   have q:=Lk _ _ _ _ _ _ hb cX;have h2:=KN _ _ _ _ _ _ cX;simp only[cX,f_]at h;split at h;.simp at h
   .rename_i bo;simp only[cm,eg]at h;have am:e<s.size:=by omega
    refine⟨e,jW,J,h.2.symm,by omega,am,?_,h.1.symm⟩;exact Decidable.byContradiction fun nk=>h2.2 ⟨am,nk⟩
theorem abR{s:ByteArray}{i:Nat}(h:eb s i≠0)(am:i+1<s.size):(aqh s (i+1)=45/\eb s i=3/\i+2<s.size)\/(aqh s (i+1)≠45/\eb s i=1):=by
 unfold eb fO at h⊢;by_cases gQ:aqh s (i+1)=45;.left;by_cases a:lq (aqh s i)=true<;>by_cases b:s.size-i<2<;>by_cases c:s.size-i<3<;>by_cases d:lq (aqh s (i+2))=true<;>by_cases e:aqh s (i+2)<aqh s i<;>simp[a,b,c,d,e,gQ]at h⊢<;>omega
 .right;by_cases a:lq (aqh s i)=true<;>by_cases b:s.size-i<2<;>simp[a,b,gQ]at h⊢<;>omega
set_option maxRecDepth 10000 in set_option maxHeartbeats 1000000 in theorem ajB(B s:ByteArray)(c e:Nat)(jW:Nat->Bool)(_hc:c<256)(hz:s.size<=1000)(N:B.size=e+1)(jj:∀i,i<=e->aqh B i=aqh s i)(h0:aqh s 0=91)(cX:db (s.size+1) s 1 (fun _=>false)=U (e,jW))(hB:1<e)(he:e<s.size)(nk:aqh s e=93)(u:((aqh B 1:Int)==33)=false)(w:ac):ap ae 200 #[ad B,I .u8 c] w fun r w'=>r=aq (aH ((jW c !=false)&&c !=47))/\w'=w:=by
 have z0:aqh B 0=91:=(jj 0 (by omega)).trans h0;have sB:((aqh B 0:Int)==63)=false:=by rw[beq_eq_false_iff_ne];omega
 have xU:((aqh B 0:Int)==92)=false:=by rw[beq_eq_false_iff_ne];omega
 have wj:((aqh B 0:Int)==91)=true:=by rw[beq_iff_eq];omega
 have Bm:=aa jj;have Qz:=aa cX;have adA:=aa N;have ks:B.size<=1000:=by omega
 have PK:e<B.size:=by omega
 clear jj cX z0 h0 N;have fE:=aqi B 0 (by omega);have e1:=aqi B 1 (by omega);go_enter func200,ntmps200;go_wp2_with fail;go_loop[5,6](fun v i=>∃(k b6:Nat)(g:Nat->Bool),1<=k/\k<=e/\i=I R k/\v=aH (g c)/\db (b6+1) s k g=U (e,jW))(fun _ i=>e-(intOf i).toNat);case atStart=>exact⟨1,s.size,_,by omega,by omega,J,J,Qz.out⟩
 case round=>
  obtain⟨k,fu,g,dY,gG,rfl,rfl,cX⟩:=hrel;have nh:=aqi B k (by omega);have Hk:=aa (Bm.out k gG);rcases Rz cX with⟨rfl,rfl,_⟩|⟨am,bo,hm,kE⟩
  .have mK:(((aqh B k:Nat):Int)!=93)=false:=by rw[bne_eq_false_iff_eq,Hk.out];omega
   clear cX;cases hg:g c;all_goals go_wp2_with fail;all_goals go_ret;exact⟨gm (by first|rfl|(rw[fs];simp;try omega)),J⟩
  .have mK:(((aqh B k:Nat):Int)!=93)=true:=by rw[bne_iff_ne,Hk.out];omega
   have uE:=KN _ _ _ _ _ _ kE;have adY:1<=eb s k:=by omega
   have RV:k+1<B.size:=by omega
   have ek1:=aqi B (k+1) RV;have FS:=aa (Bm.out (k+1) (by omega));have Q8:∃f2,fu=f2+1:=by
    cases fu with
     |zero=>simp[db]at kE
     |succ f2=>exact⟨f2,J⟩
   obtain⟨f2,rfl⟩:=Q8;rcases abR hm (by omega)with⟨gQ,Ju,h2⟩|⟨gQ,nu⟩
   .rw[Ju]at kE uE;have BC:(((aqh B (k+1):Nat):Int)==45)=true:=by rw[beq_iff_eq,FS.out];omega
    have ek2:=aqi B (k+2) (by omega);have PU:=aa (Bm.out (k+2) (by omega));have HS:=aa kE;clear cX kE hm Ju gQ bo;have uN:∀b:Bool,b=(g c||(decide (aqh B k<=c)&&decide (c<=aqh B (k+2))))->aH b=aH (tc g (aqh s k) (aqh s (k+3-1)) c):=by intro b hb;rw[hb,Hk.out,PU.out];rfl
    have ms:=aa uN;clear uN;cases hg:g c
    .by_cases fW:aqh B k<=c
     .by_cases jF:c<=aqh B (k+2)
      .go_wp2_with fail;go_round;case rel=>exact⟨k+3,f2,_,by omega,by omega,by go_num,ms.out _ (by rw[hg];simp[fW,jF]),HS.out⟩
       case measure=>simp[intOf];omega
      .go_wp2_with fail;go_round;case rel=>exact⟨k+3,f2,_,by omega,by omega,by go_num,ms.out _ (by rw[hg];simp[fW];try omega),HS.out⟩
       case measure=>simp[intOf];omega
     .go_wp2_with fail;go_round;case rel=>exact⟨k+3,f2,_,by omega,by omega,by go_num,ms.out _ (by rw[hg];simp;try omega),HS.out⟩
      case measure=>simp[intOf];omega
    .go_wp2_with fail;go_round;case rel=>exact⟨k+3,f2,_,by omega,by omega,by go_num,ms.out _ (by rw[hg];simp),HS.out⟩
     case measure=>simp[intOf];omega
   .rw[nu]at kE uE;have BC:(((aqh B (k+1):Nat):Int)==45)=false:=by rw[beq_eq_false_iff_ne,FS.out];omega
    have HS:=aa kE;clear cX kE hm nu gQ bo;have uN:∀b:Bool,b=(g c||(decide (aqh B k<=c)&&decide (c<=aqh B k)))->aH b=aH (tc g (aqh s k) (aqh s (k+1-1)) c):=by intro b hb;rw[hb,Hk.out];rfl
    have ms:=aa uN;clear uN;cases hg:g c
    .by_cases fW:aqh B k<=c
     .by_cases jF:c<=aqh B k
      .go_wp2_with fail;go_round;case rel=>exact⟨k+1,f2,_,by omega,by omega,by go_num,ms.out _ (by rw[hg];simp[fW,jF]),HS.out⟩
       case measure=>simp[intOf];omega
      .go_wp2_with fail;go_round;case rel=>exact⟨k+1,f2,_,by omega,by omega,by go_num,ms.out _ (by rw[hg];simp[fW];try omega),HS.out⟩
       case measure=>simp[intOf];omega
     .go_wp2_with fail;go_round;case rel=>exact⟨k+1,f2,_,by omega,by omega,by go_num,ms.out _ (by rw[hg];simp;try omega),HS.out⟩
      case measure=>simp[intOf];omega
    .go_wp2_with fail;go_round;case rel=>exact⟨k+1,f2,_,by omega,by omega,by go_num,ms.out _ (by rw[hg];simp),HS.out⟩
     case measure=>simp[intOf];omega
set_option maxRecDepth 10000 in set_option maxHeartbeats 1000000 in theorem ahq(B s:ByteArray)(c e:Nat)(jW:Nat->Bool)(_hc:c<256)(hz:s.size<=1000)(N:B.size=e+1)(jj:∀i,i<=e->aqh B i=aqh s i)(h0:aqh s 0=91)(cX:db (s.size+1) s 2 (fun _=>false)=U (e,jW))(hB:2<e)(he:e<s.size)(nk:aqh s e=93)(u:((aqh B 1:Int)==33)=true)(w:ac):ap ae 200 #[ad B,I .u8 c] w fun r w'=>r=aq (aH ((jW c !=true)&&c !=47))/\w'=w:=by
 have z0:aqh B 0=91:=(jj 0 (by omega)).trans h0;have sB:((aqh B 0:Int)==63)=false:=by rw[beq_eq_false_iff_ne];omega
 have xU:((aqh B 0:Int)==92)=false:=by rw[beq_eq_false_iff_ne];omega
 have wj:((aqh B 0:Int)==91)=true:=by rw[beq_iff_eq];omega
 have Bm:=aa jj;have Qz:=aa cX;have adA:=aa N;have ks:B.size<=1000:=by omega
 have PK:e<B.size:=by omega
 clear jj cX z0 h0 N;have fE:=aqi B 0 (by omega);have e1:=aqi B 1 (by omega);go_enter func200,ntmps200;go_wp2_with fail;go_loop[5,6](fun v i=>∃(k b6:Nat)(g:Nat->Bool),2<=k/\k<=e/\i=I R k/\v=aH (g c)/\db (b6+1) s k g=U (e,jW))(fun _ i=>e-(intOf i).toNat);case atStart=>exact⟨2,s.size,_,by omega,by omega,J,J,Qz.out⟩
 case round=>
  obtain⟨k,fu,g,dY,gG,rfl,rfl,cX⟩:=hrel;have nh:=aqi B k (by omega);have Hk:=aa (Bm.out k gG);rcases Rz cX with⟨rfl,rfl,_⟩|⟨am,bo,hm,kE⟩
  .have mK:(((aqh B k:Nat):Int)!=93)=false:=by rw[bne_eq_false_iff_eq,Hk.out];omega
   clear cX;cases hg:g c;all_goals go_wp2_with fail;all_goals go_ret;exact⟨gm (by first|rfl|(rw[fs];simp;try omega)),J⟩
  .have mK:(((aqh B k:Nat):Int)!=93)=true:=by rw[bne_iff_ne,Hk.out];omega
   have uE:=KN _ _ _ _ _ _ kE;have adY:1<=eb s k:=by omega
   have RV:k+1<B.size:=by omega
   have ek1:=aqi B (k+1) RV;have FS:=aa (Bm.out (k+1) (by omega));have Q8:∃f2,fu=f2+1:=by
    cases fu with
     |zero=>simp[db]at kE
     |succ f2=>exact⟨f2,J⟩
   obtain⟨f2,rfl⟩:=Q8;rcases abR hm (by omega)with⟨gQ,Ju,h2⟩|⟨gQ,nu⟩
   .rw[Ju]at kE uE;have BC:(((aqh B (k+1):Nat):Int)==45)=true:=by rw[beq_iff_eq,FS.out];omega
    have ek2:=aqi B (k+2) (by omega);have PU:=aa (Bm.out (k+2) (by omega));have HS:=aa kE;clear cX kE hm Ju gQ bo;have uN:∀b:Bool,b=(g c||(decide (aqh B k<=c)&&decide (c<=aqh B (k+2))))->aH b=aH (tc g (aqh s k) (aqh s (k+3-1)) c):=by intro b hb;rw[hb,Hk.out,PU.out];rfl
    have ms:=aa uN;clear uN;cases hg:g c
    .by_cases fW:aqh B k<=c
     .by_cases jF:c<=aqh B (k+2)
      .go_wp2_with fail;go_round;case rel=>exact⟨k+3,f2,_,by omega,by omega,by go_num,ms.out _ (by rw[hg];simp[fW,jF]),HS.out⟩
       case measure=>simp[intOf];omega
      .go_wp2_with fail;go_round;case rel=>exact⟨k+3,f2,_,by omega,by omega,by go_num,ms.out _ (by rw[hg];simp[fW];try omega),HS.out⟩
       case measure=>simp[intOf];omega
     .go_wp2_with fail;go_round;case rel=>exact⟨k+3,f2,_,by omega,by omega,by go_num,ms.out _ (by rw[hg];simp;try omega),HS.out⟩
      case measure=>simp[intOf];omega
    .go_wp2_with fail;go_round;case rel=>exact⟨k+3,f2,_,by omega,by omega,by go_num,ms.out _ (by rw[hg];simp),HS.out⟩
     case measure=>simp[intOf];omega
   .rw[nu]at kE uE;have BC:(((aqh B (k+1):Nat):Int)==45)=false:=by rw[beq_eq_false_iff_ne,FS.out];omega
    have HS:=aa kE;clear cX kE hm nu gQ bo;have uN:∀b:Bool,b=(g c||(decide (aqh B k<=c)&&decide (c<=aqh B k)))->aH b=aH (tc g (aqh s k) (aqh s (k+1-1)) c):=by intro b hb;rw[hb,Hk.out];rfl
    have ms:=aa uN;clear uN;cases hg:g c
    .by_cases fW:aqh B k<=c
     .by_cases jF:c<=aqh B k
      .go_wp2_with fail;go_round;case rel=>exact⟨k+1,f2,_,by omega,by omega,by go_num,ms.out _ (by rw[hg];simp[fW,jF]),HS.out⟩
       case measure=>simp[intOf];omega
      .go_wp2_with fail;go_round;case rel=>exact⟨k+1,f2,_,by omega,by omega,by go_num,ms.out _ (by rw[hg];simp[fW];try omega),HS.out⟩
       case measure=>simp[intOf];omega
     .go_wp2_with fail;go_round;case rel=>exact⟨k+1,f2,_,by omega,by omega,by go_num,ms.out _ (by rw[hg];simp;try omega),HS.out⟩
      case measure=>simp[intOf];omega
    .go_wp2_with fail;go_round;case rel=>exact⟨k+1,f2,_,by omega,by omega,by go_num,ms.out _ (by rw[hg];simp),HS.out⟩
     case measure=>simp[intOf];omega
theorem akc(g:Nat->Bool)(c:Nat):cS g 47 false c=(g c&&c !=47):=by
 unfold cS;by_cases h:c=47;.simp[h]
 .simp[h]
theorem aok(s B:ByteArray)(c n:Nat)(f:Nat->Bool)(H:c<256)(F:1<=s.size)(hz:s.size<=1000)(M:cw s=U (f,false,n))(N:B=s.extract 0 n)(w:ac):ap ae 200 #[ad B,I .u8 c] w fun r w'=>r=aq (aH (f c))/\w'=w:=by
 have hb:=rX F M;have ks:B.size=n:=by rw[N];simp;omega
 have jj:∀i,i<n->aqh B i=aqh s i:=fun i hi=>by rw[N];unfold aqh;rw[xd];simp[cI,hi]
 clear N;have z0:=jj 0 (by omega);unfold cw at M;split at M;.simp at M
 .split at M;.simp at M
  .split at M
   .rename_i kq;simp only[cm,eg]at M;obtain⟨rfl,_,rfl⟩:=M;have sB:((aqh B 0:Int)==63)=true:=by rw[beq_iff_eq];omega
    have fE:=aqi B 0 (by omega);clear jj z0 kq;go_enter func200,ntmps200;go_wp2_with fail;go_ret;exact⟨gm (by rw[fs];simp[lH,gK,cS];omega),J⟩
   .split at M
    .rename_i gB;unfold tF at M;cases eW:e4 s with
      |none=>rw[eW]at M;simp at M
      |some x=>
       obtain⟨g,k⟩:=x;rw[eW]at M;simp only[xg,cm,eg]at M;obtain⟨rfl,_,rfl⟩:=M;obtain⟨e,jW,cX,rfl,hB,he,nk,rfl⟩:=alK F eW;have z1:=jj 1 (by unfold g' at hB;split at hB<;>omega);rw[akc];cases u:kT s
       .have bH:g' s=1:=by unfold g';rw[u];rfl
        rw[bH]at cX hB;have Ro:((aqh B 1:Int)==33)=false:=by unfold kT at u;rw[beq_eq_false_iff_ne,z1];intro h;rw[show aqh s 1=33 by omega]at u;simp at u;omega
        refine(ajB B s c e jW H hz ks (fun i hi=>jj i (by omega)) gB cX hB he nk Ro w).mono fun r w'⟨L,hw⟩=>⟨?_,hw⟩;rw[L];exact gm (by simp)
       .have bH:g' s=2:=by unfold g';rw[u];rfl
        rw[bH]at cX hB;have Ro:((aqh B 1:Int)==33)=true:=by unfold kT at u;simp at u;rw[beq_iff_eq,z1];omega
        refine(ahq B s c e jW H hz ks (fun i hi=>jj i (by omega)) gB cX hB he nk Ro w).mono fun r w'⟨L,hw⟩=>⟨?_,hw⟩;rw[L];exact gm (by simp)
    .split at M
     .rename_i jl;unfold mL at M;split at M
      .rename_i h2;simp only[cm,eg]at M;obtain⟨rfl,_,rfl⟩:=M;have z1:=jj 1 (by omega);have sB:((aqh B 0:Int)==63)=false:=by rw[beq_eq_false_iff_ne];omega
       have xU:((aqh B 0:Int)==92)=true:=by rw[beq_iff_eq];omega
       have pw:1<B.size:=by omega
       have GL:0<B.size:=by omega
       have fE:=aqi B 0 GL;have e1:=aqi B 1 pw;have Z1:=aa z1;clear jj z0 z1 jl h2 ks;go_enter func200,ntmps200;go_wp2_with fail;go_ret;exact⟨gm (by rw[<-Z1.out,fs];simp[gK,cS];omega),J⟩
      .simp at M
     .split at M
      .rename_i eX kq gB jl hp;simp only[cm,eg]at M;obtain⟨rfl,_,rfl⟩:=M;have sB:((aqh B 0:Int)==63)=false:=by rw[beq_eq_false_iff_ne];omega
       have xU:((aqh B 0:Int)==92)=false:=by rw[beq_eq_false_iff_ne];omega
       have wj:((aqh B 0:Int)==91)=false:=by rw[beq_eq_false_iff_ne];omega
       have GL:0<B.size:=by omega
       have fE:=aqi B 0 GL;have Z0:=aa z0;clear jj z0 eX kq gB jl hp ks;go_enter func200,ntmps200;go_wp2_with fail;go_ret;exact⟨gm (by rw[<-Z0.out,fs];simp[gK,cS];omega),J⟩
      .simp at M
def Ad(p:ByteArray)(cs:List (Nat×Nat)):List ag:=cs.map fun c=>ad (p.extract c.1 (c.1+c.2))
theorem alk(p:ByteArray)(cs:List (Nat×Nat))(c:Nat×Nat):Ad p (cs++[c])=Ad p cs++[ad (p.extract c.1 (c.1+c.2))]:=by simp[Ad]
def uq(p:ByteArray)(cs:List (Nat×Nat))(Z:List Part):Prop:=cs.length=Z.length/\∀i,i<Z.length->(cs.getD i (0,0)).1<p.size/\cw (p.extract (cs.getD i (0,0)).1 p.size)=U (fY Z i,fa Z i,(cs.getD i (0,0)).2)
theorem uq.nil(p:ByteArray):uq p [] []:=⟨J,fun i h=>by simp at h⟩
theorem uq.anK{p:ByteArray}{cs:List (Nat×Nat)}{Z:List Part}(h:uq p cs Z){a n:Nat}{f:Nat->Bool}{m:Bool}(ha:a<p.size)(M:cw (p.extract a p.size)=U (f,m,n)):uq p (cs++[(a,n)]) (Z++[(f,m)]):=by
 refine⟨by simp[h.1],fun i hi=>?_⟩;have hl:=h.1;simp only[List.length_append,List.length_cons,List.length_nil]at hi;by_cases am:i<Z.length
 .have q:(cs++[(a,n)]).getD i (0,0)=cs.getD i (0,0):=by rw[cI,vG (by omega),<-cI]
  have h2:(Z++[(f,m)]).getD i (fun _=>false,false)=Z.getD i (fun _=>false,false):=by rw[cI,vG am,<-cI]
  unfold fY fa;rw[q,h2];exact h.2 i am
 .have e:i=Z.length:=by omega
  subst e;have q:(cs++[(a,n)]).getD Z.length (0,0)=(a,n):=by rw[cI,vF (by omega),hl];simp
  have h2:(Z++[(f,m)]).getD Z.length (fun _=>false,false)=(f,m):=by rw[cI,vF (by omega)];simp
  unfold fY fa;rw[q,h2];exact⟨ha,M⟩
theorem aql:∃i,ae.info? 9=U i/\i.zero=U (ad .empty)/\i.size=1/\i.bytes=16:=by
 have hz:(ae.info? 9).map (·.zero)=U (U (ad .empty)):=by kernel_rfl
 have F:(ae.info? 9).map (·.size)=U 1:=by kernel_rfl
 have hb:(ae.info? 9).map (·.bytes)=U 16:=by kernel_rfl
 cases N:ae.info? 9 with
  |none=>rw[N]at F;simp at F
  |some i=>rw[N]at hz F hb;simp at hz F hb;exact⟨i,J,hz,F,hb⟩
theorem Bu{a_:Array bz}{rest:List bz}{o:bz}{a:Act}{w:ac}{aE:Exit->Act->ac->Prop}(de:o.guard=ab)(s x:Operand)(ho:o.op= .call {callee:= .builtin .append,args:=#[s,x],argTypes:=#[22,22]})(base:Nat)(v:ag)(n:Nat)(xs:List ag)(F:a.eval s=v)(cE:w.ownsRow base 9 1 v n xs)(g:Nat)(hx:a.eval x=ak (U ⟨g,0,ab⟩) 1 1)(B:ByteArray)(hg:w.heap[g]?=U (.cells #[ad B] 9 (0,0)))(u:n<=1000)(pE:base<=w.heap.size)(h:∀v' w',w'.ownsRow base 9 1 v' (n+1) (xs++[ad B])->w.grownBy w' v.ownBlock->wpList ae a_ aE rest (a.put o.dst v') w'):wpList ae a_ aE (o::rest) a w:=by
 obtain⟨i,hi,hz,cP,lb⟩:=aql;refine wpList_append_own (P:=ae) w de s x 22 ho base 9 i _ 1 16 underlying22 hi hz cP lb J (by decide) v n xs F cE ⟨g,0,ab⟩ 1 1 [ad B] hx J ?_ ?_ (by simp only[maxLen];omega) (by omega) pE ?_
 .intro j ay hu;have sv:(⟨g,0,ab⟩:Addr).add j=⟨g,j,ab⟩:=by unfold Addr.add;split<;>simp_all
  rw[sv,aT w g j _ _ _ hg];simpa using hu
 .intro ay hu;simp only[List.mem_cons,List.not_mem_nil,or_false]at hu;subst hu;rfl
 .intro v' w' q h2 _;exact h v' w' q h2
theorem CB{w w':ac}{base n:Nat}{v:ag}{xs:List ag}(h:w.ownsRow base 9 1 v n xs)(hb:Below w.heap.size w w'):w'.ownsRow base 9 1 v n xs:=by
 refine h.kept (W4 hb) ?_;cases hv:v.ownBlock with
  |none=>exact .inl J
  |some k=>exact .inr (by simp)
def BG(w:ac)(p:ByteArray)(e:Ending)(w':ac):Prop:=Below w.heap.size w w'/\match fi (p.size+1) p 0 with|ab=>e=aq (az #[ak ab 0 0,aH false])|U Z=>∃E cs,e=aq (az #[E,aH (decide (0<Z.length))])/\uq p cs Z/\w'.ownsRow w.heap.size 9 1 E Z.length (Ad p cs)
def _root_.Go.Value.Td(v:ag)(n:Nat):Prop:=∃a c,v=ak a n c
theorem _root_.Go.World.ownsRow.aiT{w:ac}{base e size n:Nat}{v:ag}{xs:List ag}(h:w.ownsRow base e size v n xs):v.Td n:=by
 rcases h.2 with⟨rfl,rfl⟩|⟨g,cap,co,rfl,_⟩;.exact⟨_,_,J⟩
 .exact⟨_,_,J⟩
def PL(w:ac)(p:ByteArray)(a:Nat)(l:ag)(wr:ac):Prop:=∃(Z:List Part)(cs:List (Nat×Nat))(b6:Nat),Z.length<=a/\p.size-a<b6/\fi (p.size+1) p 0=(fi b6 p a).map (Z++·)/\uq p cs Z/\wr.ownsRow w.heap.size 9 1 l Z.length (Ad p cs)/\Below w.heap.size w wr/\l.Td Z.length
theorem PL.none{w:ac}{p:ByteArray}{a:Nat}{l:ag}{wr:ac}(h:PL w p a l wr)(am:a<p.size)(M:cw (p.extract a p.size)=ab):BG w p (aq (az #[ak ab 0 0,aH false])) wr:=by
 obtain⟨Z,cs,b6,q,h2,h3,h4,h5,h6,_⟩:=h;obtain⟨fu,rfl⟩:∃fu,b6=fu+1:=⟨b6-1,by omega⟩;have xP:fi (fu+1) p a=ab:=by rw[fi,if_pos am,M]
 rw[xP]at h3;refine⟨h6,?_⟩;rw[h3];rfl
theorem PL.j'{w:ac}{p:ByteArray}{a:Nat}{l:ag}{wr:ac}(h:PL w p a l wr)(uE:¬a<p.size):∃n:Nat,l.Td n/\BG w p (aq (az #[l,aH (decide (0<n))])) wr:=by
 obtain⟨Z,cs,b6,q,h2,h3,h4,h5,h6,h7⟩:=h;obtain⟨fu,rfl⟩:∃fu,b6=fu+1:=⟨b6-1,by omega⟩;have xP:fi (fu+1) p a=U []:=by rw[fi,if_neg uE]
 rw[xP]at h3;refine⟨Z.length,h7,h6,?_⟩;rw[h3];simp only[xg,List.append_nil];exact⟨l,cs,J,h4,h5⟩
theorem PL.cW{w:ac}{p:ByteArray}{a:Nat}{l:ag}{wr:ac}(h:PL w p a l wr):∃n xs,n<=a/\wr.ownsRow w.heap.size 9 1 l n xs/\Below w.heap.size w wr/\∀(f:Nat->Bool)(m:Bool)(k:Nat),a<p.size->cw (p.extract a p.size)=U (f,m,k)->∀v' w',w'.ownsRow w.heap.size 9 1 v' (n+1) (xs++[ad (p.extract a (a+k))])->Below w.heap.size w w'->PL w p (a+k) v' w':=by
 obtain⟨Z,cs,b6,q,h2,h3,h4,h5,h6,h7⟩:=h;refine⟨Z.length,Ad p cs,q,h5,h6,?_⟩;intro f m k am M v' w' ho hb;obtain⟨fu,rfl⟩:∃fu,b6=fu+1:=⟨b6-1,by omega⟩;have kP:=rX (by rw[size_extract];omega) M;rw[size_extract]at kP;refine⟨Z++[(f,m)],cs++[(a,k)],fu,by simp;omega,by omega,?_,h4.anK am M,?_,hb,?_⟩;.rw[h3,fi,if_pos am,M];show TT _ (TT _ (fi fu p (a+k)))=_;generalize fi fu p (a+k)=r;cases r<;>simp
 .rw[alk];simpa using ho
 .have:=ho.aiT;simpa using this
set_option maxRecDepth 10000 in set_option maxHeartbeats 2000000 in theorem NS(p:ByteArray)(hz:p.size<=1000)(w:ac):ap ae 110 #[ad p] w (BG w p):=by
 go_enter func110,ntmps110;go_wp2_with fail;go_loopw[4,5](fun l qN wr=>∃a:Nat,a<=p.size/\qN=I R a/\PL w p a l wr)(fun _ qN _=>p.size-(intOf qN).toNat);case atStart=>exact⟨0,by omega,J,[],[],p.size+1,by simp,by omega,by simp,uq.nil p,World.ownsRow_nil _ _ _ _,aS _ _,⟨_,_,J⟩⟩
 case round=>
  obtain⟨a,ha,rfl,ib⟩:=hrel;by_cases am:a<p.size
  .have nh:=aqi p a am;have apo:=aqj p a;have z0:aqh (p.extract a p.size) 0=aqh p a:=by rw[qm p a 0 (by omega)];rfl
   have bN:mg (p.extract a p.size)=(decide (2<=p.size-a)&&aqh p a==42&&aqh p (a+1)==42):=by unfold mg;rw[size_extract,z0,qm p a 1 (by omega)]
   by_cases eX:aqh p a=42
   .have xG:((aqh p a:Int)==42)=true:=by rw[beq_iff_eq];omega
    by_cases h2:a+1<p.size
    .have e1:=aqi p (a+1) h2;have d1:decide ((a:Int)+1<(p.size:Int))=true:=by simp;omega
     by_cases q:aqh p (a+1)=42
     .have c1:((aqh p (a+1):Int)==42)=true:=by rw[beq_iff_eq];omega
      have hF:cw (p.extract a p.size)=U (lH fun _=>false,true,2):=by unfold cw;rw[if_pos (by rw[bN,eX,q];simp;omega)]
      clear bN q eX z0;obtain⟨n,xs,Fl,cE,hB,kr⟩:=ib.cW;have HX:=aa (kr _ _ _ am hF);have HO:=aa cE;have kP:=rX (by rw[size_extract];omega) hF;rw[size_extract]at kP;clear hF ib kr cE;go_wp2_with(first|(refine Bu J _ _ J w.heap.size u4 n xs ?_ ?_ wr.heap.size ?_ (p.extract a (a+2)) ?_ (by omega) ?_ ?_;(.rfl);(.exact CB HO.out ((aS _ _).alloc (aA _) _));(.rfl);(.exact a7 _ _);(.exact bL hB.size (by simp));intro v' w2 dA hg2));go_roundw;case rel=>exact⟨a+2,by omega,by go_num,HX.out _ _ dA ((hB.alloc hB.size _).grown hg2 (bL hB.size (by simp)) fun k z=>(HO.out.lt k z).1)⟩
      case measure=>simp[intOf];omega
     .have c1:((aqh p (a+1):Int)==42)=false:=by rw[beq_eq_false_iff_ne];omega
      have hF:cw (p.extract a p.size)=U (lH (gK 47),true,1):=by unfold cw;rw[if_neg (by rw[bN];simp[q]),if_pos (by rw[z0,eX])]
      clear bN q eX z0;obtain⟨n,xs,Fl,cE,hB,kr⟩:=ib.cW;have HX:=aa (kr _ _ _ am hF);have HO:=aa cE;have kP:=rX (by rw[size_extract];omega) hF;rw[size_extract]at kP;clear hF ib kr cE;go_wp2_with(first|(refine Bu J _ _ J w.heap.size u4 n xs ?_ ?_ wr.heap.size ?_ (p.extract a (a+1)) ?_ (by omega) ?_ ?_;(.rfl);(.exact CB HO.out ((aS _ _).alloc (aA _) _));(.rfl);(.exact a7 _ _);(.exact bL hB.size (by simp));intro v' w2 dA hg2));go_roundw;case rel=>exact⟨a+1,by omega,by go_num,HX.out _ _ dA ((hB.alloc hB.size _).grown hg2 (bL hB.size (by simp)) fun k z=>(HO.out.lt k z).1)⟩
      case measure=>simp[intOf];omega
    .have d1:decide ((a:Int)+1<(p.size:Int))=false:=by simp;omega
     have hF:cw (p.extract a p.size)=U (lH (gK 47),true,1):=by unfold cw;rw[if_neg (by rw[bN];simp;omega),if_pos (by rw[z0,eX])]
     clear bN eX z0;obtain⟨n,xs,Fl,cE,hB,kr⟩:=ib.cW;have HX:=aa (kr _ _ _ am hF);have HO:=aa cE;have kP:=rX (by rw[size_extract];omega) hF;rw[size_extract]at kP;clear hF ib kr cE;go_wp2_with(first|(refine Bu J _ _ J w.heap.size u4 n xs ?_ ?_ wr.heap.size ?_ (p.extract a (a+1)) ?_ (by omega) ?_ ?_;(.rfl);(.exact CB HO.out ((aS _ _).alloc (aA _) _));(.rfl);(.exact a7 _ _);(.exact bL hB.size (by simp));intro v' w2 dA hg2));go_roundw;case rel=>exact⟨a+1,by omega,by go_num,HX.out _ _ dA ((hB.alloc hB.size _).grown hg2 (bL hB.size (by simp)) fun k z=>(HO.out.lt k z).1)⟩
     case measure=>simp[intOf];omega
   .have xG:((aqh p a:Int)==42)=false:=by rw[beq_eq_false_iff_ne];omega
    have gT:¬mg (p.extract a p.size)=true:=by rw[bN];simp[eX]
    by_cases gB:aqh p a=91
    .have wj:((aqh p a:Int)==91)=true:=by rw[beq_iff_eq];omega
     cases eW:e4 (p.extract a p.size)with
      |none=>
       have hF:cw (p.extract a p.size)=ab:=by unfold cw;rw[if_neg gT,z0,if_neg eX,if_neg (by omega),if_pos gB];unfold tF;rw[eW];rfl
       have HV:=aa (pF eW);clear bN eX gB z0 gT eW;have HN:=aa (ib.none am hF);clear hF ib;go_wp2_with(go_at_call 152;refine(Uq p a am hz _).mono ?_;rintro e wx⟨rfl,nV⟩;rw[nV,HV.out];clear nV wx);go_ret2;exact HN.out
      |some x=>
       obtain⟨f,k⟩:=x;have hF:cw (p.extract a p.size)=U (f,false,k):=by unfold cw;rw[if_neg gT,z0,if_neg eX,if_neg (by omega),if_pos gB];unfold tF;rw[eW];rfl
       have HV:=aa (Kc eW);clear bN eX gB z0 gT eW;obtain⟨n,xs,Fl,cE,hB,kr⟩:=ib.cW;have HX:=aa (kr _ _ _ am hF);have HO:=aa cE;have kP:=rX (by rw[size_extract];omega) hF;rw[size_extract]at kP;clear hF ib kr cE;go_wp2_with(first|(go_at_call 152;refine(Uq p a am hz _).mono ?_;rintro e wx⟨rfl,nV⟩;rw[nV,HV.out];clear nV wx)|(refine Bu J _ _ J w.heap.size u4 n xs ?_ ?_ wr.heap.size ?_ (p.extract a (a+k)) ?_ (by omega) ?_ ?_;(.rfl);(.exact CB HO.out ((aS _ _).alloc (aA _) _));(.rfl);(.exact a7 _ _);(.exact bL hB.size (by simp));intro v' w2 dA hg2));go_roundw;case rel=>exact⟨a+k,by omega,by go_num,HX.out _ _ dA ((hB.alloc hB.size _).grown hg2 (bL hB.size (by simp)) fun k z=>(HO.out.lt k z).1)⟩
       case measure=>simp[intOf];omega
    .have wj:((aqh p a:Int)==91)=false:=by rw[beq_eq_false_iff_ne];omega
     by_cases jl:aqh p a=92
     .have xU:((aqh p a:Int)==92)=true:=by rw[beq_iff_eq];omega
      have hE:cw (p.extract a p.size)=mL (p.extract a p.size):=by unfold cw;rw[if_neg gT,z0,if_neg eX,if_neg (by omega),if_neg gB,if_pos jl]
      unfold mL at hE;rw[size_extract,qm p a 1 (by omega)]at hE;by_cases h2:a+1<p.size
      .have d2:decide ((p.size:Int)<(a:Int)+2)=false:=by simp;omega
       have e1:=aqi p (a+1) h2;cases mw:sL (aqh p (a+1))
       .have hF:cw (p.extract a p.size)=ab:=by rw[hE,if_neg (by rw[mw];simp)]
        clear bN eX gB jl z0 gT hE;have HN:=aa (ib.none am hF);clear hF ib;go_wp2_with(go_at_call 153;refine(Ws _ _).mono ?_;rintro e wx⟨rfl,nV⟩;rw[nV];clear nV wx);go_ret2;exact HN.out
       .have hF:cw (p.extract a p.size)=U (gK (aqh p (a+1)),false,2):=by rw[hE,if_pos ⟨by omega,mw⟩]
        clear bN eX gB jl z0 gT hE;obtain⟨n,xs,Fl,cE,hB,kr⟩:=ib.cW;have HX:=aa (kr _ _ _ am hF);have HO:=aa cE;have kP:=rX (by rw[size_extract];omega) hF;rw[size_extract]at kP;clear hF ib kr cE;go_wp2_with(first|(go_at_call 153;refine(Ws _ _).mono ?_;rintro e wx⟨rfl,nV⟩;rw[nV];clear nV wx)|(refine Bu J _ _ J w.heap.size u4 n xs ?_ ?_ wr.heap.size ?_ (p.extract a (a+2)) ?_ (by omega) ?_ ?_;(.rfl);(.exact CB HO.out ((aS _ _).alloc (aA _) _));(.rfl);(.exact a7 _ _);(.exact bL hB.size (by simp));intro v' w2 dA hg2));go_roundw;case rel=>exact⟨a+2,by omega,by go_num,HX.out _ _ dA ((hB.alloc hB.size _).grown hg2 (bL hB.size (by simp)) fun k z=>(HO.out.lt k z).1)⟩
        case measure=>simp[intOf];omega
      .have d2:decide ((p.size:Int)<(a:Int)+2)=true:=by simp;omega
       have hF:cw (p.extract a p.size)=ab:=by rw[hE,if_neg (by omega)]
       clear bN eX gB jl z0 gT hE;have HN:=aa (ib.none am hF);clear hF ib;go_wp2_with fail;go_ret2;exact HN.out
     .have xU:((aqh p a:Int)==92)=false:=by rw[beq_eq_false_iff_ne];omega
      by_cases kq:aqh p a=63
      .have sB:((aqh p a:Int)==63)=true:=by rw[beq_iff_eq];omega
       have hF:cw (p.extract a p.size)=U (lH (gK 47),false,1):=by unfold cw;rw[if_neg gT,z0,if_neg eX,if_pos kq]
       clear bN eX gB jl kq z0 gT;obtain⟨n,xs,Fl,cE,hB,kr⟩:=ib.cW;have HX:=aa (kr _ _ _ am hF);have HO:=aa cE;have kP:=rX (by rw[size_extract];omega) hF;rw[size_extract]at kP;clear hF ib kr cE;go_wp2_with(first|(refine Bu J _ _ J w.heap.size u4 n xs ?_ ?_ wr.heap.size ?_ (p.extract a (a+1)) ?_ (by omega) ?_ ?_;(.rfl);(.exact CB HO.out ((aS _ _).alloc (aA _) _));(.rfl);(.exact a7 _ _);(.exact bL hB.size (by simp));intro v' w2 dA hg2));go_roundw;case rel=>exact⟨a+1,by omega,by go_num,HX.out _ _ dA ((hB.alloc hB.size _).grown hg2 (bL hB.size (by simp)) fun k z=>(HO.out.lt k z).1)⟩
       case measure=>simp[intOf];omega
      .have sB:((aqh p a:Int)==63)=false:=by rw[beq_eq_false_iff_ne];omega
       have hE:cw (p.extract a p.size)=if qV (aqh p a)=true then U (gK (aqh p a),false,1)else ab:=by unfold cw;rw[if_neg gT,z0,if_neg eX,if_neg kq,if_neg gB,if_neg jl]
       have g9:qV (aqh p a)=!(decide ((aqh p a:Int)<33)||decide (126<(aqh p a:Int))||(aqh p a:Int)==34||(aqh p a:Int)==93):=by rw[fs];simp[qV,sL];omega
       by_cases g1:aqh p a<33
       .have hF:cw (p.extract a p.size)=ab:=by rw[hE,if_neg (by rw[g9];simp;omega)]
        have x1:decide ((aqh p a:Int)<33)=true:=by simp;omega
        clear bN eX gB jl kq z0 gT hE g9;have HN:=aa (ib.none am hF);clear hF ib;go_wp2_with fail;go_ret2;exact HN.out
       .have x1:decide ((aqh p a:Int)<33)=false:=by simp;omega
        by_cases g2:126<aqh p a
        .have hF:cw (p.extract a p.size)=ab:=by rw[hE,if_neg (by rw[g9];simp;omega)]
         have x2:decide (126<(aqh p a:Int))=true:=by simp;omega
         clear bN eX gB jl kq z0 gT hE g9;have HN:=aa (ib.none am hF);clear hF ib;go_wp2_with fail;go_ret2;exact HN.out
        .have x2:decide (126<(aqh p a:Int))=false:=by simp;omega
         by_cases g3:aqh p a=34
         .have hF:cw (p.extract a p.size)=ab:=by rw[hE,if_neg (by rw[g9];simp;omega)]
          have c34:((aqh p a:Int)==34)=true:=by rw[beq_iff_eq];omega
          clear bN eX gB jl kq z0 gT hE g9 g3;have HN:=aa (ib.none am hF);clear hF ib;go_wp2_with fail;go_ret2;exact HN.out
         .have c34:((aqh p a:Int)==34)=false:=by rw[beq_eq_false_iff_ne];omega
          by_cases g4:aqh p a=93
          .have hF:cw (p.extract a p.size)=ab:=by rw[hE,if_neg (by rw[g9];simp;omega)]
           have c93:((aqh p a:Int)==93)=true:=by rw[beq_iff_eq];omega
           clear bN eX gB jl kq z0 gT hE g9 g3 g4;have HN:=aa (ib.none am hF);clear hF ib;go_wp2_with fail;go_ret2;exact HN.out
          .have hF:cw (p.extract a p.size)=U (gK (aqh p a),false,1):=by rw[hE,if_pos (by rw[g9];simp;omega)]
           have c93:((aqh p a:Int)==93)=false:=by rw[beq_eq_false_iff_ne];omega
           clear bN eX gB jl kq z0 gT hE g9 g3 g4;obtain⟨n,xs,Fl,cE,hB,kr⟩:=ib.cW;have HX:=aa (kr _ _ _ am hF);have HO:=aa cE;have kP:=rX (by rw[size_extract];omega) hF;rw[size_extract]at kP;clear hF ib kr cE;go_wp2_with(first|(refine Bu J _ _ J w.heap.size u4 n xs ?_ ?_ wr.heap.size ?_ (p.extract a (a+1)) ?_ (by omega) ?_ ?_;(.rfl);(.exact CB HO.out ((aS _ _).alloc (aA _) _));(.rfl);(.exact a7 _ _);(.exact bL hB.size (by simp));intro v' w2 dA hg2));go_roundw;case rel=>exact⟨a+1,by omega,by go_num,HX.out _ _ dA ((hB.alloc hB.size _).grown hg2 (bL hB.size (by simp)) fun k z=>(HO.out.lt k z).1)⟩
           case measure=>simp[intOf];omega
  .obtain⟨n,⟨ju,cp,rfl⟩,DL⟩:=ib.j' am;have HN:=aa DL;clear DL ib;go_wp2_with fail;go_ret2;exact HN.out
def q7(m:Bool)(f r:Nat->Bool)(s:ByteArray):Nat->Bool|0=>m&&r 0|j+1=>if m=true then r (j+1)||(q7 m f r s j&&f (aqh s j))else r j&&f (aqh s j)
def eJ(Z:List Part)(s:ByteArray):Nat->Nat->Bool|0=>fun j=>j==0|i+1=>q7 (fa Z i) (fY Z i) (eJ Z s i) s
theorem amf(f r:Nat->Bool)(s:ByteArray)(x:Nat):q7 false f r s x=true↔∃i,r i=true/\f (aqh s i)=true/\x=i+1:=by
 cases x with
  |zero=>simp[q7]
  |succ j=>
   simp only[q7,Bool.false_eq_true,if_false,lR];constructor;.intro h;exact⟨j,h.1,h.2,J⟩
   .rintro⟨i,q,h2,h3⟩;obtain rfl:j=i:=by omega
    exact⟨q,h2⟩
theorem anN(f r:Nat->Bool)(s:ByteArray)(x:Nat):q7 true f r s x=true↔∃i,i<=x/\r i=true/\∀al,i<=al->al<x->f (aqh s al)=true:=by
 induction x with
  |zero=>
   simp only[q7,Bool.true_and];constructor;.intro h;exact⟨0,aA _,h,fun al _ h=>by omega⟩
   .rintro⟨i,q,h2,_⟩;obtain rfl:i=0:=by omega
    exact h2
  |succ j ih=>
   simp only[q7,if_true,Bool.or_eq_true,lR];constructor
   .rintro(h|⟨q,h2⟩);.exact⟨j+1,aA _,h,fun al a b=>by omega⟩
    .obtain⟨i,a,b,c⟩:=ih.1 q;refine⟨i,by omega,b,fun al yy hy2=>?_⟩;by_cases e:al=j;.subst e;exact h2
     .exact c al yy (by omega)
   .rintro⟨i,a,b,c⟩;by_cases e:i=j+1;.left;rw[<-e];exact b
    .right;exact⟨ih.2 ⟨i,by omega,b,fun al q h2=>c al q (by omega)⟩,c j (by omega) (by omega)⟩
def rO(Z:List Part)(g:Nat->Bool):Nat->Bool|0=>g 0|i+1=>g (i+1)||(fa Z i&&rO Z g i)
theorem PS(Z:List Part)(g:Nat->Bool):∀k i,jv Z g k i=if i<=k then rO Z g i else g i
 |0,i=>by
  cases i with
   |zero=>rfl
   |succ i=>simp[jv]
 |k+1,i=>by
  have ih:=PS Z g k;have z:jv Z g k k=rO Z g k:=by rw[ih];simp
  rw[jv];by_cases hi:i=k+1
  .subst hi;have q:jv Z g k (k+1)=g (k+1):=by rw[ih,if_neg (by omega)]
   rw[if_pos (aA _),rO];split;.rename_i H;rw[z]at H;simp only[lR]at H;simp[cS,H.1,H.2]
   .rename_i H;rw[z]at H;have:(fa Z k&&rO Z g k)=false:=by rw[Bool.and_comm];simpa using H
    rw[q,this];simp
  .have h2:(if i<=k+1 then rO Z g i else g i)=(if i<=k then rO Z g i else g i):=by
    by_cases hl:i<=k;.rw[if_pos hl,if_pos (by omega)]
    .rw[if_neg hl,if_neg (by omega)]
   rw[h2,<-ih i];split;.simp[cS,hi]
   .rfl
theorem V5(Z:List Part)(f:Nat->Bool)(b:Nat):∀k i,jD Z f b k i=true↔(i<k/\f i=true/\fY Z i b=true/\fa Z i=true)\/∃i',i=i'+1/\i'<k/\f i'=true/\fY Z i' b=true/\fa Z i'=false
 |0,i=>by simp[jD]
 |k+1,i=>by
  have ih:=V5 Z f b k i;rw[jD];split
  .rename_i H;simp only[lR]at H;split
   .rename_i hm;by_cases e:i=k;.subst e;simp only[cS,if_true];exact⟨fun _=> .inl ⟨by omega,H.1,H.2,hm⟩,fun _=>trivial⟩
    .simp only[cS,if_neg e];rw[ih];constructor
     .rintro(⟨a,r⟩|⟨i',a,fL,r⟩);.exact .inl ⟨by omega,r⟩
      .exact .inr ⟨i',a,by omega,r⟩
     .rintro(⟨a,r⟩|⟨i',a,fL,r⟩);.exact .inl ⟨by omega,r⟩
      .refine .inr ⟨i',a,?_,r⟩;by_cases e2:i'=k;.subst e2;rw[hm]at r;simp at r
       .omega
   .rename_i hm;have hm':fa Z k=false:=by simpa using hm
    by_cases e:i=k+1;.subst e;simp only[cS,if_true];exact⟨fun _=> .inr ⟨k,J,by omega,H.1,H.2,hm'⟩,fun _=>trivial⟩
    .simp only[cS,if_neg e];rw[ih];constructor
     .rintro(⟨a,r⟩|⟨i',a,fL,r⟩);.exact .inl ⟨by omega,r⟩
      .exact .inr ⟨i',a,by omega,r⟩
     .rintro(⟨a,r⟩|⟨i',a,fL,r⟩)
      .refine .inl ⟨?_,r⟩;by_cases e2:i=k;.subst e2;rw[hm']at r;simp at r
       .omega
      .exact .inr ⟨i',a,by omega,r⟩
  .rename_i H;rw[ih];constructor
   .rintro(⟨a,r⟩|⟨i',a,fL,r⟩);.exact .inl ⟨by omega,r⟩
    .exact .inr ⟨i',a,by omega,r⟩
   .rintro(⟨a,r⟩|⟨i',a,fL,r⟩)
    .refine .inl ⟨?_,r⟩;by_cases e2:i=k;.subst e2;exact absurd (by rw[r.1,r.2.1];rfl) H
     .omega
    .refine .inr ⟨i',a,?_,r⟩;by_cases e2:i'=k;.subst e2;exact absurd (by rw[r.1,r.2.1];rfl) H
     .omega
def mD(Z:List Part)(s:ByteArray)(i j:Nat):Bool:=if i<Z.length/\fa Z i=true then eJ Z s (i+1) j else eJ Z s i j
theorem Tl(Z:List Part)(s:ByteArray)(i:Nat):eJ Z s (i+1) 0=(fa Z i&&eJ Z s i 0):=rfl
theorem aav(Z:List Part)(s:ByteArray)(i j:Nat)(h:fa Z i=true):eJ Z s (i+1) (j+1)=(eJ Z s i (j+1)||(eJ Z s (i+1) j&&fY Z i (aqh s j))):=by show q7 _ _ _ _ _=_;rw[q7,if_pos h];rfl
theorem aeE(Z:List Part)(s:ByteArray)(i j:Nat)(h:fa Z i=false):eJ Z s (i+1) (j+1)=(eJ Z s i j&&fY Z i (aqh s j)):=by show q7 _ _ _ _ _=_;rw[q7,if_neg (by rw[h];simp)]
theorem aay(Z:List Part)(s:ByteArray):∀i,i<=Z.length->rO Z (fun i=>i==0) i=mD Z s i 0
 |0,_=>by
  unfold mD;split;.rename_i h;rw[Tl,h.2];rfl
  .rfl
 |i+1,hi=>by
  have ih:=aay Z s i (by omega);have e:mD Z s (i+1) 0=eJ Z s (i+1) 0:=by
   unfold mD;split;.rename_i h;rw[Tl,h.2];rfl
   .rfl
  rw[e,rO,ih];cases hm:fa Z i;.rw[Tl,hm];rfl
  .have:mD Z s i 0=eJ Z s (i+1) 0:=by unfold mD;rw[if_pos ⟨by omega,hm⟩]
   rw[this];simp
theorem akJ(Z:List Part)(s:ByteArray)(f:Nat->Bool)(j:Nat)(M:∀i,i<=Z.length->f i=mD Z s i j):∀i,i<=Z.length->rO Z (jD Z f (aqh s j) Z.length) i=mD Z s i (j+1):=by
 have hA:∀i,i<=Z.length->∀x:Bool,(x=true↔∃i',i=i'+1/\i'<Z.length/\f i'=true/\fY Z i' (aqh s j)=true/\fa Z i'=false)->jD Z f (aqh s j) Z.length i=((decide (i<Z.length)&&fa Z i&&eJ Z s (i+1) j&&fY Z i (aqh s j))||x):=by
  intro i hi x hx;rw[fs,V5];simp only[Bool.or_eq_true,lR,decide_eq_true_eq];rw[hx];constructor
  .rintro(⟨q,h2,h3,h4⟩|h);.rw[M i hi]at h2;unfold mD at h2;rw[if_pos ⟨q,h4⟩]at h2;exact .inl ⟨⟨⟨q,h4⟩,h2⟩,h3⟩
   .exact .inr h
  .rintro(⟨⟨⟨q,h4⟩,h2⟩,h3⟩|h);.refine .inl ⟨q,?_,h3,h4⟩;rw[M i hi];unfold mD;rw[if_pos ⟨q,h4⟩];exact h2
   .exact .inr h
 intro i;induction i with
  |zero=>
   intro hi;rw[rO,hA 0 hi false (by simp)];unfold mD;by_cases h:0<Z.length/\fa Z 0=true;.rw[if_pos h,aav _ _ _ _ h.2];simp[h.1,h.2,eJ]
   .rw[if_neg h];have:(decide (0<Z.length)&&fa Z 0)=false:=by
     rw[FG];by_cases h0:0<Z.length;.right;simpa[h0]using h
     .left;simpa using h0
    rw[this];rfl
  |succ i ih=>
   intro hi;have ih':=ih (by omega);have sS:(mD Z s (i+1) (j+1))=((decide (i+1<Z.length)&&fa Z (i+1)&&eJ Z s (i+2) j&&fY Z (i+1) (aqh s j))||eJ Z s (i+1) (j+1)):=by
    unfold mD;by_cases h:i+1<Z.length/\fa Z (i+1)=true;.rw[if_pos h,aav _ _ _ _ h.2,Bool.or_comm];simp[h.1,h.2]
    .rw[if_neg h];have:(decide (i+1<Z.length)&&fa Z (i+1))=false:=by
      rw[FG];by_cases h0:i+1<Z.length;.right;simpa[h0]using h
      .left;simpa using h0
     rw[this];simp
   cases hm:fa Z i
   .have hp:mD Z s i j=eJ Z s i j:=by unfold mD;rw[if_neg (by rw[hm];simp)]
    rw[rO,hA (i+1) hi (eJ Z s (i+1) (j+1)),sS,hm];.simp
    .rw[aeE _ _ _ _ hm,lR];constructor;.rintro⟨a,b⟩;exact⟨i,J,by omega,by rw[M i (by omega),hp];exact a,b,hm⟩
     .rintro⟨i',e,_,a,b,_⟩;obtain rfl:i=i':=by omega
      rw[M i (by omega),hp]at a;exact⟨a,b⟩
   .have hp:mD Z s i (j+1)=eJ Z s (i+1) (j+1):=by unfold mD;rw[if_pos ⟨by omega,hm⟩]
    rw[rO,hA (i+1) hi false,sS,hm,ih',hp];.simp
    .constructor;.intro h;simp at h
     .rintro⟨i',e,_,_,_,c⟩;obtain rfl:i=i':=by omega
      rw[hm]at c;simp at c
theorem aaH(Z:List Part)(s:ByteArray):∀j i,i<=Z.length->q8 Z s j i=mD Z s i j|0,i,hi=>by rw[q8,PS,if_pos hi];exact aay Z s i hi|j+1,i,hi=>by rw[q8,PS,if_pos hi];exact akJ Z s _ j (fun i h=>aaH Z s j i h) i hi
theorem aiz(Z:List Part)(s:ByteArray):q8 Z s s.size Z.length=eJ Z s Z.length s.size:=by rw[aaH Z s s.size Z.length (aA _)];unfold mD;rw[if_neg (by omega)]
theorem ajL:∃i,ae.info? 4=U i/\i.zero=U (aH false)/\i.size=1/\i.bytes=1:=by
 have hz:(ae.info? 4).map (·.zero)=U (U (aH false)):=by kernel_rfl
 have F:(ae.info? 4).map (·.size)=U 1:=by kernel_rfl
 have hb:(ae.info? 4).map (·.bytes)=U 1:=by kernel_rfl
 cases N:ae.info? 4 with
  |none=>rw[N]at F;simp at F
  |some i=>rw[N]at hz F hb;simp at hz F hb;exact⟨i,J,hz,F,hb⟩
theorem amb(n:Nat):madeCells (aH false).cells n=LA n fun _=>false:=by
 apply Array.ext_getElem?;intro i;by_cases h:i<n;.rw[lX n _ i h];simp[madeCells,Value.cells,h,Nat.mod_one]
 .have e1:(madeCells (aH false).cells n)[i]?=ab:=by simp[size_madeCells];omega
  have e2:(LA n fun _=>false)[i]?=ab:=by simp[il];omega
  rw[e1,e2]
theorem OK{a_:Array bz}{rest:List bz}{o:bz}{a:Act}{w:ac}{aE:Exit->Act->ac->Prop}(de:o.guard=ab)(x al:Operand)(ho:o.op= .makeSlice 284 x al)(n:Nat)(hx:a.eval x=I R n)(hy:a.eval al=I R n)(u:n<=10000)(h:wpList ae a_ aE rest (a.put o.dst (ak (U ⟨w.heap.size,0,ab⟩) n n)) (w.alloc (.cells (LA n fun _=>false) 4))):wpList ae a_ aE (o::rest) a w:=by obtain⟨i,hi,hz,F,hb⟩:=ajL;have L:=run_make (P:=ae) w 284 4 i _ underlying284 hi hz R R (n:Int) (n:Int) (by omega) (by omega) (by rw[hb];omega) (by omega);rw[F,Int.toNat_natCast,Nat.mul_one,amb]at L;refine wpList_plain de fun _ A=>?_;unfold Oper.wp execOp;simp only[ho,hx,hy,Sem.run_bind,L,Result.andThen_ok];exact A _ _ h
def sa(p:ByteArray)(cs:List (Nat×Nat))(i:Nat):ByteArray:=p.extract (cs.getD i (0,0)).1 ((cs.getD i (0,0)).1+(cs.getD i (0,0)).2)
theorem Vn(p:ByteArray)(a n:Nat)(h:a+n<=p.size):p.extract a (a+n)=(p.extract a p.size).extract 0 n:=by apply ByteArray.ext;apply Array.ext';rw[xd,xd,xd];simp only[Nat.sub_zero,List.drop_zero,Nat.add_sub_cancel_left,List.take_take];congr 1;omega
theorem aeb{p:ByteArray}{cs:List (Nat×Nat)}{Z:List Part}(h:uq p cs Z)(hz:p.size<=1000){i:Nat}(hi:i<Z.length):1<=(sa p cs i).size/\(sa p cs i).size<=1000/\(fa Z i=true->aqh (sa p cs i) 0=42/\(((sa p cs i).size=2/\∀c,fY Z i c=true)\/((sa p cs i).size≠2/\∀c,fY Z i c=(c !=47))))/\(fa Z i=false->aqh (sa p cs i) 0≠42/\∀(c:Nat),c<256->∀w,ap ae 200 #[ad (sa p cs i),I .u8 c] w fun r w'=>r=aq (aH (fY Z i c))/\w'=w):=by
 obtain⟨ha,M⟩:=h.2 i hi;generalize fY Z i=f at*;generalize fa Z i=m at*;unfold sa;generalize(cs.getD i (0,0)).1=a at*;generalize(cs.getD i (0,0)).2=n at*;have F:1<=(p.extract a p.size).size:=by rw[size_extract];omega
 have hb:=rX F M;rw[size_extract]at hb;have cP:(p.extract a (a+n)).size=n:=by simp;omega
 have l9:aqh (p.extract a (a+n)) 0=aqh (p.extract a p.size) 0:=by rw[Vn p a n (by omega)];unfold aqh;rw[xd (p.extract a p.size)];simp[cI,List.getElem?_take,show 0<n by omega]
 refine⟨by omega,by omega,?_,?_⟩
 .intro hm;subst hm;rw[l9,cP];unfold cw at M;split at M;.rename_i bN;simp only[cm,eg]at M;obtain⟨rfl,_,rfl⟩:=M;simp only[mg,lR,beq_iff_eq]at bN;exact⟨bN.1.2, .inl ⟨J,fun c=>J⟩⟩
  .split at M;.rename_i eX;simp only[cm,eg]at M;obtain⟨rfl,_,rfl⟩:=M;refine⟨eX, .inr ⟨by omega,fun c=>?_⟩⟩;rw[fs];simp[lH,gK,cS]
   .exfalso;split at M;.simp at M
    .split at M;.unfold tF at M;cases H:e4 (p.extract a p.size)<;>simp[H]at M
     .split at M;.unfold mL at M;split at M<;>simp at M
      .split at M<;>simp at M
 .intro hm;subst hm;rw[l9];constructor;.intro eX;unfold cw at M;rw[if_pos eX]at M;split at M<;>simp at M
  .intro c H w;exact aok (p.extract a p.size) _ c n f H F (by rw[size_extract];omega) M (Vn p a n (by omega)) w
def LW(w:ac)(aC g g2:Nat)(r h:Nat->Bool)(W:ac):Prop:=Below w.heap.size w W/\w.heap.size<=g/\g<g2/\W.heap[g]?=U (.cells (LA (aC+1) r) 4 (0,0))/\W.heap[g2]?=U (.cells (LA (aC+1) h) 4 (0,0))
theorem LW.drewN{w:ac}{aC g g2:Nat}{r h:Nat->Bool}{W:ac}(x:LW w aC g g2 r h W)(n:Nat):LW w aC g g2 r h (W.drewN n):=⟨jq x.1 n,x.2.1,x.2.2.1,x.2.2.2.1,x.2.2.2.2⟩
theorem LW.set{w:ac}{aC g g2:Nat}{r h:Nat->Bool}{W:ac}(x:LW w aC g g2 r h W)(i:Nat)(b:Bool):LW w aC g g2 r (cS h i b) (W.setCell ⟨g2,i,ab⟩ (aH b)):=by
 obtain⟨q,h2,h3,h4,h5⟩:=x;refine⟨q.setCell (p:=⟨g2,i,ab⟩) (show w.heap.size<=g2 by omega) _,h2,h3,?_,?_⟩;.rw[heap_setCell_other _ _ _ _ (show g≠g2 by omega)];exact h4
 .rw[heap_setCell_same W g2 i _ _ _ h5,tZ]
theorem LW.cell{w:ac}{aC g g2:Nat}{r h:Nat->Bool}{W:ac}(x:LW w aC g g2 r h W)(i:Nat)(hi:i<=aC):W.cell? ⟨g,i,ab⟩=U (aH (r i)):=by rw[aT _ _ i _ _ _ x.2.2.2.1,lX _ _ i (by omega)]
theorem LW.OI{w:ac}{aC g g2:Nat}{r h:Nat->Bool}{W:ac}(x:LW w aC g g2 r h W)(i:Nat)(hi:i<=aC):W.cell? ⟨g2,i,ab⟩=U (aH (h i)):=by rw[aT _ _ i _ _ _ x.2.2.2.2,lX _ _ i (by omega)]
theorem LW.Tv{w:ac}{aC g g2:Nat}{r h:Nat->Bool}{W:ac}(x:LW w aC g g2 r h W)(i:Nat):W.frozen? ⟨g2,i,ab⟩=false:=frozen_of_row _ _ i _ _ x.2.2.2.2
def BM(f r:Nat->Bool)(s:ByteArray)(i x:Nat):Prop:=∃k,k<i/\k<s.size/\r k=true/\f (aqh s k)=true/\x=k+1
def AA(f r:Nat->Bool)(s:ByteArray)(i x:Nat):Prop:=∃k,k<i/\k<=x/\r k=true/\∀al,k<=al->al<x->f (aqh s al)=true
theorem Tt{f r:Nat->Bool}{s:ByteArray}{i x:Nat}(h:r i=false\/¬i<s.size\/f (aqh s i)=false):BM f r s (i+1) x↔BM f r s i x:=by
 constructor
 .rintro⟨k,a,b,c,d,e⟩;refine⟨k,?_,b,c,d,e⟩;by_cases z:k=i
  .subst z;rcases h with h|h|h;.rw[h]at c;simp at c
   .exact absurd b h
   .rw[h]at d;simp at d
  .omega
 .rintro⟨k,a,r⟩;exact⟨k,by omega,r⟩
theorem ahs{f r:Nat->Bool}{s:ByteArray}{i x:Nat}(q:r i=true)(h2:i<s.size)(h3:f (aqh s i)=true):BM f r s (i+1) x↔(x=i+1\/BM f r s i x):=by
 constructor
 .rintro⟨k,a,b,c,d,e⟩;by_cases z:k=i;.subst z;exact .inl e
  .exact .inr ⟨k,by omega,b,c,d,e⟩
 .rintro(rfl|⟨k,a,r⟩);.exact⟨i,by omega,h2,q,h3,J⟩
  .exact⟨k,by omega,r⟩
theorem amZ{f r:Nat->Bool}{s:ByteArray}{i x:Nat}(h:r i=false):AA f r s (i+1) x↔AA f r s i x:=by
 constructor
 .rintro⟨k,a,b,c,d⟩;refine⟨k,?_,b,c,d⟩;by_cases z:k=i;.subst z;rw[h]at c;simp at c
  .omega
 .rintro⟨k,a,r⟩;exact⟨k,by omega,r⟩
theorem abJ{f r:Nat->Bool}{s:ByteArray}{i j x:Nat}(vL:i<=j)(q:r i=true)(h2:∀al,i<=al->al<j->f (aqh s al)=true)(h3:j=s.size\/f (aqh s j)=false)(hx:x<=s.size):AA f r s (i+1) x↔(AA f r s i x\/(i<=x/\x<=j)):=by
 constructor
 .rintro⟨k,a,b,c,d⟩;by_cases z:k=i
  .subst z;refine .inr ⟨b,?_⟩;by_cases hj:x<=j;.exact hj
   .exfalso;rcases h3 with h3|h3;.omega
    .have:=d j vL (by omega);rw[h3]at this;simp at this
  .exact .inl ⟨k,by omega,b,c,d⟩
 .rintro(⟨k,a,r⟩|⟨a,b⟩);.exact⟨k,by omega,r⟩
  .exact⟨i,by omega,a,q,fun al c d=>h2 al c (by omega)⟩
theorem akN{Z:List Part}{s:ByteArray}{k x:Nat}(hm:fa Z k=false)(hx:x<=s.size):eJ Z s (k+1) x=true↔BM (fY Z k) (eJ Z s k) s (s.size+1) x:=by
 show q7 _ _ _ _ _=true↔_;rw[hm,amf];constructor;.rintro⟨i,a,b,c⟩;exact⟨i,by omega,by omega,a,b,c⟩
 .rintro⟨i,_,_,a,b,c⟩;exact⟨i,a,b,c⟩
theorem age{Z:List Part}{s:ByteArray}{k x:Nat}(hm:fa Z k=true)(hx:x<=s.size):eJ Z s (k+1) x=true↔AA (fY Z k) (eJ Z s k) s (s.size+1) x:=by
 show q7 _ _ _ _ _=true↔_;rw[hm,anN];constructor;.rintro⟨i,a,b,c⟩;exact⟨i,by omega,a,b,c⟩
 .rintro⟨i,_,a,b,c⟩;exact⟨i,a,b,c⟩
theorem LW.start{w W:ac}{aC g:Nat}{r:Nat->Bool}(q:Below w.heap.size w W)(h2:w.heap.size<=g)(h3:W.heap[g]?=U (.cells (LA (aC+1) r) 4 (0,0))):LW w aC g W.heap.size r (fun _=>false) (W.alloc (.cells (LA (aC+1) fun _=>false) 4)):=by have am:g<W.heap.size:=(Array.getElem?_eq_some_iff.1 h3).1;exact⟨q.alloc q.size _,h2,am,(Below.heap_alloc _ _ _ am).trans h3,a7 _ _⟩
theorem Wa{P:Program}{f:FuncId}{args:Array ag}{w:ac}{n:Nat}{v:ag}(h:ap P f args (w.drewN n) fun e w'=>e=aq v/\w'=w.drewN n):ap P f args (w.drewN n) fun e bF=>e=aq v/\∃m,bF=w.drewN m:=h.mono fun _ _⟨he,hm⟩=>⟨he,n,hm⟩
def OP(w:ac)(aC g:Nat)(r:Nat->Bool)(W:ac):Prop:=Below w.heap.size w W/\w.heap.size<=g/\W.heap[g]?=U (.cells (LA (aC+1) r) 4 (0,0))
theorem LW.next{w W:ac}{aC g g2:Nat}{r h r':Nat->Bool}(x:LW w aC g g2 r h W)(e:∀i,i<=aC->(h i=true↔r' i=true)):OP w aC g2 r' W:=by refine⟨x.1,by have:=x.2.1;have:=x.2.2.1;omega,?_⟩;rw[x.2.2.2.2,Sz (aC+1) h r' (fun i hi=>by rw[fs];exact e i (by omega))]
set_option maxRecDepth 10000 in set_option maxHeartbeats 2000000 in theorem aoT(p s:ByteArray)(cs:List (Nat×Nat))(Z:List Part)(b cap:Nat)(hz:p.size<=1000)(F:s.size<=1000)(hcut:uq p cs Z)(wB:Z.length<=1000)(w:ac)(hb:b<w.heap.size)(hl:∀i,i<Z.length->w.cell? ⟨b,i,ab⟩=U (ad (sa p cs i))):ap ae 155 #[ak (U ⟨b,0,ab⟩) Z.length cap,ad s] w fun e w'=>e=aq (aH (eJ Z s Z.length s.size))/\Below w.heap.size w w':=by
 have Pf:=aa hl;have ahl:=aa hcut;clear hl hcut;have Sw:=lX (s.size+1) (fun _=>false) 0 (by omega);go_enter func155,ntmps155;go_wp2_with(refine OK J _ _ J (s.size+1) ?_ ?_ (by omega) ?_;(.rfl);(.rfl));refine IF (OP w s.size w.heap.size (eJ Z s 0)) ⟨(aS _ _).alloc (aA _) _,aA _,by rw[a7,tZ,Sz (s.size+1) (cS (fun _=>false) 0 true) (eJ Z s 0) (fun i _=>by rw[fs];simp[cS,eJ])]⟩ ?_;rintro V0 dR;clear Sw;go_loopw[5,6](fun qN i w'=>∃k g:Nat,k<=Z.length/\qN=ak (U ⟨g,0,ab⟩) (s.size+1) (s.size+1)/\i=I R k/\OP w s.size g (eJ Z s k) w')(fun _ i _=>Z.length-(intOf i).toNat);case atStart=>exact⟨0,w.heap.size,by omega,J,J,dR⟩
 case round=>
  obtain⟨k,g,z,rfl,rfl,H4⟩:=hrel;clear dR;by_cases am:k<Z.length
  .obtain⟨q1,q2,Pp,sY⟩:=aeb ahl.out hz am;have N:=Pf.out k am;generalize sa p cs k=B at*;have fE:=aqi B 0 (by omega);have Fv:=aa H4;clear H4;cases hm:fa Z k
   .obtain⟨L_,qs⟩:=sY hm;have HS:=aa qs;have Oq:((aqh B 0:Int)!=42)=true:=by rw[bne_iff_ne];omega
    clear Pp sY qs L_;go_wp2_with(refine OK J _ _ J (s.size+1) ?_ ?_ (by omega) ?_;(.rfl);(.rfl));refine IF (LW w s.size g wr.heap.size (eJ Z s k) fun _=>false) (LW.start Fv.out.1 Fv.out.2.1 Fv.out.2.2) ?_;generalize wr.heap.size=g2;rintro V1 ek;go_loopw[8](fun i w'=>∃(m:Nat)(h:Nat->Bool),m<=s.size+1/\i=I R m/\LW w s.size g g2 (eJ Z s k) h w'/\∀x,x<=s.size->(h x=true↔BM (fY Z k) (eJ Z s k) s m x))(fun i _=>s.size+1-(intOf i).toNat);case atStart=>exact⟨0,_,by omega,J,ek,fun x _=>by simp[BM]⟩
    case round=>
     obtain⟨m,h,nu,rfl,vf,rZ⟩:=hrel;have dx:=aa rZ;have rt:=aa vf;clear ek rZ;by_cases pK:m<=s.size
     .have c1:=vf.cell m pK;have jj:=(vf.1.cell (p:=⟨b,k,ab⟩) hb).trans N;clear vf;cases L:eJ Z s k m
      .rw[L]at c1;go_wp2_with fail;go_roundw;case rel=>exact⟨m+1,h,by omega,by go_num,rt.out,fun x hx=>(dx.out x hx).trans (Tt (.inl L)).symm⟩
       case measure=>simp[intOf];omega
      .rw[L]at c1;by_cases Cr:m<s.size
       .have em:=aqi s m Cr;have ae5:decide ((m:Int)<(s.size:Int))=true:=by simp;omega
        have ov:=aqj s m;cases sm:fY Z k (aqh s m)
        .go_wp2_with fail;go_quiet((go_at_call 200;exact Wa (HS.out _ ov _)));rw[sm];go_wp2_with fail;go_roundw;case rel=>exact⟨m+1,h,by omega,by go_num,rt.out.drewN _,fun x hx=>(dx.out x hx).trans (Tt (.inr (.inr sm))).symm⟩
         case measure=>simp[intOf];omega
        .have c2:=rt.out.OI (m+1) (by omega);have f2:=rt.out.Tv (m+1);go_wp2_with fail;go_quiet((go_at_call 200;exact Wa (HS.out _ ov _)));rw[sm];go_wp2_with fail;go_roundw;case rel=>
          exact⟨m+1,cS h (m+1) true,by omega,by go_num,(rt.out.drewN _).set _ _,fun x hx=>by
           rw[ahs L Cr sm,<-dx.out x hx];by_cases e:x=m+1;.simp[cS,e]
           .simp[cS,e]⟩
         case measure=>simp[intOf];omega
       .have ae5:decide ((m:Int)<(s.size:Int))=false:=by simp;omega
        go_wp2_with fail;go_quiet(fail);go_wp2_with fail;go_roundw;case rel=>exact⟨m+1,h,by omega,by go_num,rt.out.drewN _,fun x hx=>(dx.out x hx).trans (Tt (.inr (.inl Cr))).symm⟩
        case measure=>simp[intOf];omega
     .have e:m=s.size+1:=by omega
      have He:=aa e;clear e vf;go_wp2_with fail;go_roundw;case rel=>exact⟨k+1,g2,by omega,J,by go_num,rt.out.next fun x hx=>by rw[dx.out x hx,He.out];exact(akN hm hx).symm⟩
      case measure=>simp[intOf];omega
   .obtain⟨L_,qs⟩:=Pp hm;have Hq2:=aa qs;have Oq:((aqh B 0:Int)!=42)=false:=by rw[bne_eq_false_iff_eq];omega
    clear Pp sY qs L_;go_wp2_with(refine OK J _ _ J (s.size+1) ?_ ?_ (by omega) ?_;(.rfl);(.rfl));refine IF (LW w s.size g wr.heap.size (eJ Z s k) fun _=>false) (LW.start Fv.out.1 Fv.out.2.1 Fv.out.2.2) ?_;generalize wr.heap.size=g2;rintro V1 ek;go_loopw[8](fun i w'=>∃(m:Nat)(h:Nat->Bool),m<=s.size+1/\i=I R m/\LW w s.size g g2 (eJ Z s k) h w'/\∀x,x<=s.size->(h x=true↔AA (fY Z k) (eJ Z s k) s m x))(fun i _=>s.size+1-(intOf i).toNat);case atStart=>exact⟨0,_,by omega,J,ek,fun x _=>by simp[AA]⟩
    case round=>
     obtain⟨m,h,nu,rfl,vf,rZ⟩:=hrel;have dx:=aa rZ;have rt:=aa vf;clear ek rZ;by_cases pK:m<=s.size
     .have c1:=vf.cell m pK;have jj:=(vf.1.cell (p:=⟨b,k,ab⟩) hb).trans N;clear vf;cases L:eJ Z s k m
      .rw[L]at c1;go_wp2_with fail;go_roundw;case rel=>exact⟨m+1,h,by omega,by go_num,rt.out,fun x hx=>(dx.out x hx).trans (amZ L).symm⟩
       case measure=>simp[intOf];omega
      .rw[L]at c1;have c3:=rt.out.OI m pK;have f3:=rt.out.Tv m;go_wp2_with fail;go_loopw[9](fun j w'=>∃(al:Nat)(h':Nat->Bool),m<=al/\al<=s.size/\j=I R al/\LW w s.size g g2 (eJ Z s k) h' w'/\(∀x,x<=s.size->(h' x=true↔h x=true\/(m<=x/\x<=al)))/\∀aI,m<=aI->aI<al->fY Z k (aqh s aI)=true)(fun j _=>s.size-(intOf j).toNat);case atStart=>
        exact⟨m,cS h m true,by omega,by omega,J,rt.out.set _ _,fun x hx=>by
         by_cases e:x=m;.simp[cS,e]
         .have:¬(m<=x/\x<=m):=by omega
          simp[cS,e,this],fun aI a b=>by omega⟩
       case round=>
        obtain⟨al,h',yy,hy2,rfl,PN,XN,zV⟩:=hrel;have C_:=aa PN;have Sr:=aa XN;have Ri:=aa zV;have apC:=(PN.1.cell (p:=⟨b,k,ab⟩) hb).trans N;clear PN XN zV;by_cases yX:al<s.size
        .have Oa:=aqi s al yX;have alB:decide ((al:Int)<(s.size:Int))=true:=by simp;omega
         have c2:=C_.out.OI (al+1) (by omega);have f2:=C_.out.Tv (al+1);have step:fY Z k (aqh s al)=true->∀W,LW w s.size g g2 (eJ Z s k) (cS h' (al+1) true) W->∃(Gc:Nat)(Ux:Nat->Bool),m<=Gc/\Gc<=s.size/\I R ((al:Int)+1)=I R Gc/\LW w s.size g g2 (eJ Z s k) Ux W/\(∀x,x<=s.size->(Ux x=true↔h x=true\/(m<=x/\x<=Gc)))/\∀aI,m<=aI->aI<Gc->fY Z k (aqh s aI)=true:=by
          intro dY W hW;refine⟨al+1,cS h' (al+1) true,by omega,by omega,by go_num,hW,fun x hx=>?_,fun aI a c=>?_⟩
          .by_cases e:x=al+1
           .have:m<=x/\x<=al+1:=by omega
            simp[cS,e];omega
           .have q:(m<=x/\x<=al+1)↔(m<=x/\x<=al):=by omega
            rw[q,<-Sr.out x hx];simp[cS,e]
          .by_cases e:aI=al;.subst e;exact dY
           .exact Ri.out aI a (by omega)
         have fz:=aa step;clear step;have abT:fY Z k (aqh s al)=false->∃(m':Nat)(h0:Nat->Bool),m'<=s.size+1/\I R ((m:Int)+1)=I R m'/\LW w s.size g g2 (eJ Z s k) h0 wr/\∀x,x<=s.size->(h0 x=true↔AA (fY Z k) (eJ Z s k) s m' x):=by intro kH;refine⟨m+1,h',by omega,by go_num,C_.out,fun x hx=>?_⟩;rw[abJ yy L Ri.out (.inr kH) hx,<-dx.out x hx];exact Sr.out x hx
         have HSO:=aa abT;clear abT;rcases Hq2.out with⟨z2,lw⟩|⟨z2,lw⟩
         .have b2:((B.size:Int)==2)=true:=by rw[beq_iff_eq];omega
          have HT:=aa (lw (aqh s al));clear z2 lw;go_wp2_with fail;go_roundw;case rel=>exact fz.out HT.out _ (C_.out.set _ _)
          case measure=>simp[intOf];omega
         .have b2:((B.size:Int)==2)=false:=by rw[beq_eq_false_iff_ne];omega
          have HT:=aa (lw (aqh s al));clear z2 lw;by_cases J4:aqh s al=47
          .have b47:((aqh s al:Int)!=47)=false:=by rw[bne_eq_false_iff_eq];omega
           have HF:=aa (show fY Z k (aqh s al)=false by rw[HT.out,J4];rfl);clear J4;go_wp2_with fail;go_roundw;case rel=>exact HSO.out HF.out
           case measure=>simp[intOf];omega
          .have b47:((aqh s al:Int)!=47)=true:=by rw[bne_iff_ne];omega
           have HF:=aa (show fY Z k (aqh s al)=true by rw[HT.out];simp[J4]);clear J4;go_wp2_with fail;go_roundw;case rel=>exact fz.out HF.out _ (C_.out.set _ _)
           case measure=>simp[intOf];omega
        .have alB:decide ((al:Int)<(s.size:Int))=false:=by simp;omega
         have Oa:al=s.size:=by omega
         have HE:=aa Oa;clear Oa;go_wp2_with fail;go_roundw;case rel=>exact⟨m+1,h',by omega,by go_num,C_.out,fun x hx=>by rw[abJ yy L Ri.out (.inl HE.out) hx,<-dx.out x hx];exact Sr.out x hx⟩
         case measure=>simp[intOf];omega
     .have e:m=s.size+1:=by omega
      have He:=aa e;clear e vf;go_wp2_with fail;go_roundw;case rel=>exact⟨k+1,g2,by omega,J,by go_num,rt.out.next fun x hx=>by rw[dx.out x hx,He.out];exact(age hm hx).symm⟩
      case measure=>simp[intOf];omega
  .have e:k=Z.length:=by omega
   subst e;have H:=aT wr g s.size _ _ _ H4.2.2;rw[lX _ _ _ (by omega)]at H;have S:=aa H4.1;clear H4;go_wp2_with fail;go_ret;exact⟨J,S.out⟩
end Go.Proofs.YtefdakbahplnbaaGreatDoor.Gl
