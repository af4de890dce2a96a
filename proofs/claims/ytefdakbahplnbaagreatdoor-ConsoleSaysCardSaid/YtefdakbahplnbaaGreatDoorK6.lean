/- The walk of glob.class. -/
import Derived.Test.YtefdakbahplnbaaGreatDoorK3
import Derived.Test.YtefdakbahplnbaaGreatDoorK2
import Derived.Laws.ResultCell
import Derived.Deep.RegionLaw
open Go.Proofs.Tryz
open Array renaming getElem?_eq_some_iff->bM
open Decidable renaming byContradiction->JH
open Go renaming Calls->ap,Exit->eK,Oper->bz,Operand->gr,Program->jf,Value->ag,World->ac,bodyPost_ret->ba,cell_of_row->aT,frozen_of_row->cy,heap_alloc2_new->y',heap_alloc2_old->AQ,heap_alloc_new->a7,setCell_eq_setRow->cJ,setRow_other->CV
open Go.Act renaming put->ar
open Go.Ending renaming returned->aq
open Go.IntKind renaming i64->R
open Go.Lib renaming hasPrefix->y_
open Go.Proofs.Tryz renaming prog->ae
open Go.Region renaming Mode->FI,free->acw,noSelect->acv,ready->FJ,wanted->sF
open Go.RowKit renaming Below->aD
open Go.RowKit.Below renaming heap_alloc->acu,refl->aS
open Go.Value renaming agg->aw,bool->aH,cells->JI,int->I,pointer->av,slice->ak,string->ad,tuple->az
open Nat renaming le_refl->aA,le_trans->bL,lt_of_lt_of_le->dk
open Option renaming map->TT,map_some->xg,none->ab,some->U
open Option.some renaming injEq->cm
open Prod.mk renaming injEq->eg
namespace Go.Proofs.YtefdakbahplnbaaGreatDoor.Gl
open Go.RowKit
attribute[local go_sem]tZ lX il FB
theorem k8{fn:Func}{p ay:Tmp}(h:fn.results=#[.cell p 298, .tmp ay])(tmps:Array ag)(w:ac)(g:Nat)(f:Nat->Bool)(v:ag)(t':TypeId)(hp:tmps.getD p undef=av (U ⟨g,0,ab⟩))(hv:tmps.getD ay undef=v)(hg:w.heap[g]?=U (.cells (LA 257 f) t' (0,0))):(results fn tmps).run ae w= .ok (az #[aw (LA 257 f),v]) w:=by rw[results_cell_tmp h,hp,hv];have hl:=run_loadVar_row (P:=ae) w g t' 298 (LA 257 f) (0,0) _ hg underlying298 J (by rw[il];exact jd);simp[asAddr,hl]
theorem Vp(s:ByteArray)(F:1<=s.size)(w:ac):ap ae 243 #[ad (s.extract 1 s.size),ad ⟨#[33]⟩] w fun e w'=>e=aq (aH (kT s))/\w'=w:=(WN (s.extract 1 s.size) ⟨#[33]⟩ w).mono fun e w'⟨he,hw⟩=>⟨by rw[he];exact gm (akz s F),hw⟩
theorem KQ(s:ByteArray)(a:Nat)(ha:a<s.size)(hz:s.size<=1000)(w:ac):ap ae 259 #[ad (s.extract a s.size)] w fun e w'=>e=aq (I R (eb s a))/\∃n,w'=w.drewN n:=(ae0 (s.extract a s.size) (by rw[size_extract];omega) (by rw[size_extract];omega) w).mono fun e w'⟨he,hw⟩=>⟨by rw[he,qm s a 0 (by omega),qm s a 1 (by omega),qm s a 2 (by omega),size_extract];rfl,hw⟩
theorem aqt{P:jf}{a_:Array bz}{r:List bz}{aE:eK->Act->ac->Prop}{a:Act}{W0:ac}(d5:ac->Prop)(h:d5 W0)(ge:∀W,d5 W->wpList P a_ aE r a W):wpList P a_ aE r a W0:=ge _ h
def U7(w:ac)(g:Nat->Bool)(V:ac):Prop:=aD w.heap.size w V/\V.heap[w.heap.size]?=U (.cells (LA 257 fun _=>false) 298 (0,0))/\V.heap[w.heap.size+1]?=U (.cells (LA 256 g) 249 (0,0))
def tY(s:ByteArray):ag:=match e4 s with|ab=>az #[aw (LA 257 fun _=>false),I R 0]|U (f,n)=>az #[aw (LA 257 (PF f false)),I R n]
theorem EM{s:ByteArray}(h:e4 s=ab):tY s=az #[aw (LA 257 fun _=>false),I R 0]:=by unfold tY;rw[h]
theorem ZU{s:ByteArray}{f:Nat->Bool}{n:Nat}(h:e4 s=U (f,n)):tY s=az #[aw (LA 257 (PF f false)),I R n]:=by unfold tY;rw[h]
def CW(w:ac)(f:Nat->Bool)(m:Nat):ac:=((w.alloc (.cells (LA 257 fun _=>false) 298)).alloc (.cells (LA 256 f) 249)).drewN m
theorem mI(w:ac)(f:Nat->Bool)(m:Nat):(CW w f m).heap[w.heap.size]?=U (.cells (LA 257 fun _=>false) 298 (0,0)):=AQ _ _ _
theorem Cg(w:ac)(f:Nat->Bool)(m:Nat):(CW w f m).heap[w.heap.size+1]?=U (.cells (LA 256 f) 249 (0,0)):=y' _ _ _
theorem ag1(w:ac)(f g:Nat->Bool)(m:Nat):(CW w f m).setRow (w.heap.size+1) (LA 256 g)=CW w g m:=by
 have h:=World.setRow_alloc_new (w.alloc (.cells (LA 257 fun _=>false) 298)) (LA 256 f) (LA 256 g) 249;have e:(w.alloc (.cells (LA 257 fun _=>false) 298)).heap.size=w.heap.size+1:=by simp
 rw[e]at h;have e2:(CW w f m).setRow (w.heap.size+1) (LA 256 g)=(((w.alloc (.cells (LA 257 fun _=>false) 298)).alloc (.cells (LA 256 f) 249)).setRow (w.heap.size+1) (LA 256 g)).drewN m:=J;rw[e2,h];rfl
theorem alQ(w:ac)(f:Nat->Bool)(m i:Nat)(h:i<256):(CW w f m).cell? ⟨w.heap.size+1,i,ab⟩=U (aH (f i)):=by rw[aT _ _ i _ _ _ (Cg w f m),lX 256 f i h]
theorem agK(w:ac)(f:Nat->Bool)(m i:Nat):(CW w f m).frozen? ⟨w.heap.size+1,i,ab⟩=false:=cy _ _ i _ _ (Cg w f m)
theorem acR(w:ac)(f:Nat->Bool)(m i:Nat)(b:Bool):(CW w f m).setCell ⟨w.heap.size+1,i,ab⟩ (aH b)=CW w (cS f i b) m:=by rw[cJ _ _ i _ _ _ _ (Cg w f m),tZ];exact ag1 w f (cS f i b) m
theorem anz(w:ac)(f:Nat->Bool)(m n:Nat):(CW w f m).drewN n=CW w f (m+n):=by unfold CW;rw[World.drewN_drewN]
theorem Xg(w:ac):CW w (fun _=>false) 0=(w.alloc (.cells (LA 257 fun _=>false) 298)).alloc (.cells (LA 256 fun _=>false) 249):=World.drewN_zero _
theorem aaq(w:ac)(f:Nat->Bool)(m:Nat):w.heap.size+1<(CW w f m).heap.size:=by show _<(World.alloc _ _).heap.size;simp
theorem w0(w:ac)(f:Nat->Bool)(m:Nat):aD w.heap.size w (CW w f m):=jq (((aS _ _).alloc (aA _) _).alloc (by simp) _) m
theorem aef{w W1:ac}{f:Nat->Bool}{m:Nat}(h:aD (CW w f m).heap.size (CW w f m) W1):U7 w (fun i=>!f i) (W1.setRow (w.heap.size+1) (LA 256 fun i=>!f i)):=by
 have hz:=aaq w f m;refine⟨below_setRow ((w0 w f m).trans (h.mono (by omega))) (by omega) _,?_,?_⟩;.rw[CV _ _ _ _ (by omega),h.block _ (by omega)];exact mI w f m
 .exact hQ _ ((h.block _ hz).trans (Cg w f m))
attribute[local go_sem]alQ agK acR anz
set_option maxRecDepth 10000 in set_option maxHeartbeats 1000000 in theorem afD(s:ByteArray)(F:1<=s.size)(hz:s.size<=1000)(u:kT s=false)(w:ac):ap ae 246 #[ad s] w fun e w'=>e=aq (tY s)/\aD w.heap.size w w':=by
 have hB:g' s=1:=by unfold g';rw[u];rfl
 have ox:e4 s=f_ false 1 s.size (db (s.size+1) s 1 fun _=>false):=by unfold e4;rw[u,hB]
 have G:=aa ox;clear ox hB;have Hn:=FV;have zp:=qG;have JV:=GH;have hBs:1<=s.size:=by omega
 go_enter func246,ntmps246;go_wp2_with(go_at_call 243;refine(Vp s F _).mono ?_;rintro e w'⟨rfl,rfl⟩);rw[<-Xg];go_loopw[4](fun a w'=>∃(k:Nat)(f:Nat->Bool)(m b6:Nat),1<=k/\k<=s.size/\a=I R k/\w'=CW w f m/\s.size-k<b6/\db b6 s k f=db (s.size+1) s 1 (fun _=>false))(fun a _=>s.size-(intOf a).toNat);case atStart=>exact⟨1,_,0,s.size+1,by omega,by omega,J,J,by omega,J⟩
 case round=>
  obtain⟨k,f,m,b6,dY,gG,rfl,rfl,F0,cX⟩:=hrel;have dL:=aa cX;clear cX;obtain⟨fu,rfl⟩:∃fu,b6=fu+1:=⟨b6-1,by omega⟩;by_cases iE:k<s.size/\aqh s k≠93
  .obtain⟨am,bo⟩:=iE;have nh:=aqi s k am;have mK:(((aqh s k:Nat):Int)!=93)=true:=by rw[bne_iff_ne];omega
   have fK:decide ((k:Int)<(s.size:Int))=true:=by simp;omega
   have pK:=Rq s k am;by_cases og:eb s k=0
   .have hR:e4 s=ab:=by rw[G.out,<-dL.out,db,if_pos ⟨am,bo⟩,if_pos og];rfl
    have HV:=aa (EM hR);have Rc:(((eb s k:Nat):Int)==0)=true:=by rw[beq_iff_eq];omega
    clear hR G dL og;go_wp2_with(first|(go_at_call 259;refine(KQ s k am hz _).mono ?_;rintro e w'⟨rfl,A_,rfl⟩)|(refine h_ 298 257 J _ _ J (w.heap.size) ?_ (fun _=>false) ?_ jd (fun _=>false) 298 ?_ ?_;(.rfl);(.rfl);(.with_reducible exact mI _ _ _))|(refine ba (k8 J _ _ w.heap.size (fun _=>false) (I R 0) 298 J J (hQ _ (mI _ _ _))) J ⟨?_,?_⟩;(.rw[HV.out]);(.exact below_setRow (w0 _ _ _) (aA _) _)))
   .have nu:1<=eb s k:=by omega
    have Rc:(((eb s k:Nat):Int)==0)=false:=by rw[beq_eq_false_iff_ne];omega
    have kE:db fu s (k+eb s k) (tc f (aqh s k) (aqh s (k+eb s k-1)))=db (s.size+1) s 1 (fun _=>false):=by rw[<-dL.out,db,if_pos ⟨am,bo⟩,if_neg og]
    have R1:=aa kE;clear kE dL og;have TA:=aqj s (k+eb s k-1);have ehi:=aqi s (k+eb s k-1) (by omega);have adP:=aqj s k;go_wp2_with(first|(go_at_call 259;refine(KQ s k am hz _).mono ?_;rintro e w'⟨rfl,A_,rfl⟩));go_loopw[35](fun c w'=>∃j:Nat,j<=256/\c=I R j/\w'=CW w (tA f (aqh s k) (aqh s (k+eb s k-1)) j) (m+A_))(fun c _=>256-(intOf c).toNat);case atStart=>exact⟨0,by omega,J,by rw[VH]⟩
    case round=>
     obtain⟨j,hj,rfl,rfl⟩:=hrel;by_cases Qf:j<256
     .by_cases q:aqh s k<=j
      .by_cases h2:j<=aqh s (k+eb s k-1)
       .go_wp2_with fail;go_roundw;case rel=>exact⟨j+1,by omega,by go_num,by rw[VB _ _ _ _ q h2]⟩
        case measure=>simp[intOf];omega
       .go_wp2_with fail;go_roundw;case rel=>exact⟨j+1,by omega,by go_num,by rw[Ml _ _ _ _ (fun h=>h2 h.2)]⟩
        case measure=>simp[intOf];omega
      .go_wp2_with fail;go_roundw;case rel=>exact⟨j+1,by omega,by go_num,by rw[Ml _ _ _ _ (fun h=>q h.1)]⟩
       case measure=>simp[intOf];omega
     .have F':j=256:=by omega
      have Sd:=aa F';clear F';go_wp2_with fail;go_roundw;case rel=>exact⟨k+eb s k,tc f (aqh s k) (aqh s (k+eb s k-1)),m+A_,fu,by omega,by omega,by go_num,by rw[Sd.out,Zw _ _ _ TA],by omega,R1.out⟩
      case measure=>simp[intOf];omega
  .have Ha:db (fu+1) s k f=U (k,f):=by rw[db,if_neg iE]
   have cZ:e4 s=f_ false 1 s.size (U (k,f)):=by rw[G.out,<-dL.out,Ha]
   clear G dL Ha;by_cases eR:k=s.size
   .have hR:e4 s=ab:=by rw[cZ];simp[f_,eR]
    have HV:=aa (EM hR);have fK:decide ((k:Int)<(s.size:Int))=false:=by simp;omega
    have yJ:((k:Int)==(s.size:Int))=true:=by rw[beq_iff_eq];omega
    clear hR cZ eR iE;by_cases hb:k=1
    .have cV:((k:Int)==1)=true:=by rw[beq_iff_eq];omega
     clear hb;go_wp2_with(first|(refine h_ 298 257 J _ _ J (w.heap.size) ?_ (fun _=>false) ?_ jd (fun _=>false) 298 ?_ ?_;(.rfl);(.rfl);(.with_reducible exact mI _ _ _))|(refine ba (k8 J _ _ w.heap.size (fun _=>false) (I R 0) 298 J J (hQ _ (mI _ _ _))) J ⟨?_,?_⟩;(.rw[HV.out]);(.exact below_setRow (w0 _ _ _) (aA _) _)))
    .have cV:((k:Int)==1)=false:=by rw[beq_eq_false_iff_ne];omega
     clear hb;go_wp2_with(first|(refine h_ 298 257 J _ _ J (w.heap.size) ?_ (fun _=>false) ?_ jd (fun _=>false) 298 ?_ ?_;(.rfl);(.rfl);(.with_reducible exact mI _ _ _))|(refine ba (k8 J _ _ w.heap.size (fun _=>false) (I R 0) 298 J J (hQ _ (mI _ _ _))) J ⟨?_,?_⟩;(.rw[HV.out]);(.exact below_setRow (w0 _ _ _) (aA _) _)))
   .have am:k<s.size:=by omega
    have nk:aqh s k=93:=JH fun h=>iE ⟨am,h⟩;have nh:=aqi s k am;have mK:(((aqh s k:Nat):Int)!=93)=false:=by rw[bne_eq_false_iff_eq];omega
    have fK:decide ((k:Int)<(s.size:Int))=true:=by simp;omega
    have yJ:((k:Int)==(s.size:Int))=false:=by rw[beq_eq_false_iff_ne];omega
    clear iE nk;by_cases hb:k=1
    .have hR:e4 s=ab:=by rw[cZ];simp[f_,hb]
     have HV:=aa (EM hR);have cV:((k:Int)==1)=true:=by rw[beq_iff_eq];omega
     clear hR cZ hb eR;go_wp2_with(first|(refine h_ 298 257 J _ _ J (w.heap.size) ?_ (fun _=>false) ?_ jd (fun _=>false) 298 ?_ ?_;(.rfl);(.rfl);(.with_reducible exact mI _ _ _))|(refine ba (k8 J _ _ w.heap.size (fun _=>false) (I R 0) 298 J J (hQ _ (mI _ _ _))) J ⟨?_,?_⟩;(.rw[HV.out]);(.exact below_setRow (w0 _ _ _) (aA _) _)))
    .have hR:e4 s=U (cS f 47 false,k+1):=by rw[cZ];simp[f_,hb,eR]
     have HV:=aa (ZU hR);have cV:((k:Int)==1)=false:=by rw[beq_eq_false_iff_ne];omega
     clear hR cZ hb eR;go_wp2_with(first|(refine De J 298 _ _ J (aw (LA 256 (cS f 47 false))) ?_ _ (IQ _) ?_;(.rfl))|(refine Bf 249 256 256 4 J _ J (w.heap.size+1) ?_ underlying249 wN (cS f 47 false) 249 ?_ ?_;(.rfl);(.with_reducible exact Cg _ _ _))|(refine h_ 298 257 J _ _ J (w.heap.size) ?_ (PF (cS f 47 false) false) ?_ jd (fun _=>false) 298 ?_ ?_;(.rfl);(.rfl);(.with_reducible exact mI _ _ _))|(refine ba (k8 J _ _ w.heap.size (PF (cS f 47 false) false) (I R ((k:Int)+1)) 298 J J (hQ _ (mI _ _ _))) J ⟨?_,?_⟩;(.rw[HV.out];rfl);(.exact below_setRow (w0 _ _ _) (aA _) _)))
set_option maxRecDepth 10000 in set_option maxHeartbeats 1000000 in theorem ai1(s:ByteArray)(F:1<=s.size)(hz:s.size<=1000)(u:kT s=true)(w:ac):ap ae 246 #[ad s] w fun e w'=>e=aq (tY s)/\aD w.heap.size w w':=by
 have hB:g' s=2:=by unfold g';rw[u];rfl
 have ox:e4 s=f_ true 2 s.size (db (s.size+1) s 2 fun _=>false):=by unfold e4;rw[u,hB]
 have G:=aa ox;clear ox hB;have Hn:=FV;have zp:=qG;have JV:=GH;have hBs:2<=s.size:=by simp[kT]at u;omega
 go_enter func246,ntmps246;go_wp2_with(go_at_call 243;refine(Vp s F _).mono ?_;rintro e w'⟨rfl,rfl⟩);rw[<-Xg];go_loopw[4](fun a w'=>∃(k:Nat)(f:Nat->Bool)(m b6:Nat),2<=k/\k<=s.size/\a=I R k/\w'=CW w f m/\s.size-k<b6/\db b6 s k f=db (s.size+1) s 2 (fun _=>false))(fun a _=>s.size-(intOf a).toNat);case atStart=>exact⟨2,_,0,s.size+1,by omega,by omega,J,J,by omega,J⟩
 case round=>
  obtain⟨k,f,m,b6,dY,gG,rfl,rfl,F0,cX⟩:=hrel;have dL:=aa cX;clear cX;obtain⟨fu,rfl⟩:∃fu,b6=fu+1:=⟨b6-1,by omega⟩;by_cases iE:k<s.size/\aqh s k≠93
  .obtain⟨am,bo⟩:=iE;have nh:=aqi s k am;have mK:(((aqh s k:Nat):Int)!=93)=true:=by rw[bne_iff_ne];omega
   have fK:decide ((k:Int)<(s.size:Int))=true:=by simp;omega
   have pK:=Rq s k am;by_cases og:eb s k=0
   .have hR:e4 s=ab:=by rw[G.out,<-dL.out,db,if_pos ⟨am,bo⟩,if_pos og];rfl
    have HV:=aa (EM hR);have Rc:(((eb s k:Nat):Int)==0)=true:=by rw[beq_iff_eq];omega
    clear hR G dL og;go_wp2_with(first|(go_at_call 259;refine(KQ s k am hz _).mono ?_;rintro e w'⟨rfl,A_,rfl⟩)|(refine h_ 298 257 J _ _ J (w.heap.size) ?_ (fun _=>false) ?_ jd (fun _=>false) 298 ?_ ?_;(.rfl);(.rfl);(.with_reducible exact mI _ _ _))|(refine ba (k8 J _ _ w.heap.size (fun _=>false) (I R 0) 298 J J (hQ _ (mI _ _ _))) J ⟨?_,?_⟩;(.rw[HV.out]);(.exact below_setRow (w0 _ _ _) (aA _) _)))
   .have nu:1<=eb s k:=by omega
    have Rc:(((eb s k:Nat):Int)==0)=false:=by rw[beq_eq_false_iff_ne];omega
    have kE:db fu s (k+eb s k) (tc f (aqh s k) (aqh s (k+eb s k-1)))=db (s.size+1) s 2 (fun _=>false):=by rw[<-dL.out,db,if_pos ⟨am,bo⟩,if_neg og]
    have R1:=aa kE;clear kE dL og;have TA:=aqj s (k+eb s k-1);have ehi:=aqi s (k+eb s k-1) (by omega);have adP:=aqj s k;go_wp2_with(first|(go_at_call 259;refine(KQ s k am hz _).mono ?_;rintro e w'⟨rfl,A_,rfl⟩));go_loopw[35](fun c w'=>∃j:Nat,j<=256/\c=I R j/\w'=CW w (tA f (aqh s k) (aqh s (k+eb s k-1)) j) (m+A_))(fun c _=>256-(intOf c).toNat);case atStart=>exact⟨0,by omega,J,by rw[VH]⟩
    case round=>
     obtain⟨j,hj,rfl,rfl⟩:=hrel;by_cases Qf:j<256
     .by_cases q:aqh s k<=j
      .by_cases h2:j<=aqh s (k+eb s k-1)
       .go_wp2_with fail;go_roundw;case rel=>exact⟨j+1,by omega,by go_num,by rw[VB _ _ _ _ q h2]⟩
        case measure=>simp[intOf];omega
       .go_wp2_with fail;go_roundw;case rel=>exact⟨j+1,by omega,by go_num,by rw[Ml _ _ _ _ (fun h=>h2 h.2)]⟩
        case measure=>simp[intOf];omega
      .go_wp2_with fail;go_roundw;case rel=>exact⟨j+1,by omega,by go_num,by rw[Ml _ _ _ _ (fun h=>q h.1)]⟩
       case measure=>simp[intOf];omega
     .have F':j=256:=by omega
      have Sd:=aa F';clear F';go_wp2_with fail;go_roundw;case rel=>exact⟨k+eb s k,tc f (aqh s k) (aqh s (k+eb s k-1)),m+A_,fu,by omega,by omega,by go_num,by rw[Sd.out,Zw _ _ _ TA],by omega,R1.out⟩
      case measure=>simp[intOf];omega
  .have Ha:db (fu+1) s k f=U (k,f):=by rw[db,if_neg iE]
   have cZ:e4 s=f_ true 2 s.size (U (k,f)):=by rw[G.out,<-dL.out,Ha]
   clear G dL Ha;by_cases eR:k=s.size
   .have hR:e4 s=ab:=by rw[cZ];simp[f_,eR]
    have HV:=aa (EM hR);have fK:decide ((k:Int)<(s.size:Int))=false:=by simp;omega
    have yJ:((k:Int)==(s.size:Int))=true:=by rw[beq_iff_eq];omega
    clear hR cZ eR iE;by_cases hb:k=2
    .have cV:((k:Int)==2)=true:=by rw[beq_iff_eq];omega
     clear hb;go_wp2_with(first|(refine h_ 298 257 J _ _ J (w.heap.size) ?_ (fun _=>false) ?_ jd (fun _=>false) 298 ?_ ?_;(.rfl);(.rfl);(.with_reducible exact mI _ _ _))|(refine ba (k8 J _ _ w.heap.size (fun _=>false) (I R 0) 298 J J (hQ _ (mI _ _ _))) J ⟨?_,?_⟩;(.rw[HV.out]);(.exact below_setRow (w0 _ _ _) (aA _) _)))
    .have cV:((k:Int)==2)=false:=by rw[beq_eq_false_iff_ne];omega
     clear hb;go_wp2_with(first|(refine h_ 298 257 J _ _ J (w.heap.size) ?_ (fun _=>false) ?_ jd (fun _=>false) 298 ?_ ?_;(.rfl);(.rfl);(.with_reducible exact mI _ _ _))|(refine ba (k8 J _ _ w.heap.size (fun _=>false) (I R 0) 298 J J (hQ _ (mI _ _ _))) J ⟨?_,?_⟩;(.rw[HV.out]);(.exact below_setRow (w0 _ _ _) (aA _) _)))
   .have am:k<s.size:=by omega
    have nk:aqh s k=93:=JH fun h=>iE ⟨am,h⟩;have nh:=aqi s k am;have mK:(((aqh s k:Nat):Int)!=93)=false:=by rw[bne_eq_false_iff_eq];omega
    have fK:decide ((k:Int)<(s.size:Int))=true:=by simp;omega
    have yJ:((k:Int)==(s.size:Int))=false:=by rw[beq_eq_false_iff_ne];omega
    clear iE nk;by_cases hb:k=2
    .have hR:e4 s=ab:=by rw[cZ];simp[f_,hb]
     have HV:=aa (EM hR);have cV:((k:Int)==2)=true:=by rw[beq_iff_eq];omega
     clear hR cZ hb eR;go_wp2_with(first|(refine h_ 298 257 J _ _ J (w.heap.size) ?_ (fun _=>false) ?_ jd (fun _=>false) 298 ?_ ?_;(.rfl);(.rfl);(.with_reducible exact mI _ _ _))|(refine ba (k8 J _ _ w.heap.size (fun _=>false) (I R 0) 298 J J (hQ _ (mI _ _ _))) J ⟨?_,?_⟩;(.rw[HV.out]);(.exact below_setRow (w0 _ _ _) (aA _) _)))
    .have hR:e4 s=U (cS (fun i=>!f i) 47 false,k+1):=by rw[cZ];simp[f_,hb,eR]
     have HV:=aa (ZU hR);have cV:((k:Int)==2)=false:=by rw[beq_eq_false_iff_ne];omega
     clear hR cZ hb eR;go_wp2_with(first|(refine De J 298 _ _ J (aw (LA 256 (cS (fun i=>!f i) 47 false))) ?_ _ (IQ _) ?_;(.rfl))|(refine Bf 249 256 256 4 J _ J (w.heap.size+1) ?_ underlying249 wN f 249 ?_ ?_;(.rfl);(.with_reducible exact Cg _ _ _))|(go_at_call 244;refine(Nd f _).mono ?_;rintro e W1⟨rfl,dU⟩)|(refine h_ 249 256 J _ _ J (w.heap.size+1) ?_ (fun i=>!f i) ?_ wN f 249 ?_ ?_;(.rfl);(.rfl);(.rw[dU.block _ (aaq w f m)];exact Cg _ _ _);refine aqt (U7 w (fun i=>!f i)) (aef dU) ?_;rintro V⟨ek,r_,To⟩;have iM:=fun i=>aT V (w.heap.size+1) i _ _ _ To;have hVf:=fun i=>cy V (w.heap.size+1) i _ _ To)|(refine Bf 249 256 256 4 J _ J (w.heap.size+1) ?_ underlying249 wN (cS (fun i=>!f i) 47 false) 249 ?_ ?_;(.rfl);(.rw[heap_setCell_same V _ 47 _ _ _ To,tZ]))|(refine h_ 298 257 J _ _ J (w.heap.size) ?_ (PF (cS (fun i=>!f i) 47 false) false) ?_ jd (fun _=>false) 298 ?_ ?_;(.rfl);(.rfl);(.rw[heap_setCell_other _ _ _ _ (by simp)];exact r_))|(refine ba (k8 J _ _ w.heap.size (PF (cS (fun i=>!f i) 47 false) false) (I R ((k:Int)+1)) 298 J J (hQ _ (by rw[heap_setCell_other _ _ _ _ (by simp)];exact r_))) J ⟨?_,?_⟩;(.rw[HV.out];rfl);(.exact below_setRow (ek.setCell (by simp) _) (aA _) _)))
end Go.Proofs.YtefdakbahplnbaaGreatDoor.Gl
namespace Go.Proofs.YtefdakbahplnbaaGreatDoor.Gl
open Go.RowKit
attribute[local go_sem]tZ lX il FB
theorem ab5(s:ByteArray)(F:1<=s.size)(hz:s.size<=1000)(w:ac):ap ae 246 #[ad s] w fun e w'=>e=aq (tY s)/\aD w.heap.size w w':=by
 cases u:kT s;.exact afD s F hz u w
 .exact ai1 s F hz u w
def o':Option ((Nat->Bool)×Bool×Nat)->ag|ab=>az #[aw (LA 257 fun _=>false),I R 0]|U (f,m,n)=>az #[aw (LA 257 (PF f m)),I R n]
def gK(b:Nat):Nat->Bool:=cS (fun _=>false) b true
def mL(s:ByteArray):Option ((Nat->Bool)×Bool×Nat):=if 2<=s.size/\sL (aqh s 1)=true then U (gK (aqh s 1),false,2)else ab
theorem XJ(b:Nat)(hb:b<256)(w:ac):ap ae 136 #[ad ⟨#[42,63,91,93,92]⟩,I .u8 b] w fun e w'=>(∃n:Int,e=aq (I R n)/\decide (n<0)=!sL b)/\w'=w:=(strings_IndexByte _ _ w).mono fun _ _⟨he,hw⟩=>⟨⟨_,he,VR b hb⟩,hw⟩
def PW(w:ac):ac:=w.alloc (.cells (LA 257 fun _=>false) 298)
theorem Bs(w:ac):(PW w).heap[w.heap.size]?=U (.cells (LA 257 fun _=>false) 298 (0,0)):=a7 _ _
theorem NB(w:ac):aD w.heap.size w (PW w):=(aS _ _).alloc (aA _) _
theorem WT(w:ac):w.heap.size<(PW w).heap.size:=by show _<(World.alloc _ _).heap.size;simp
theorem nw{w W:ac}(h:aD (PW w).heap.size (PW w) W):W.heap[w.heap.size]?=U (.cells (LA 257 fun _=>false) 298 (0,0)):=(h.block _ (WT w)).trans (Bs w)
theorem yF{w W:ac}(h:aD (PW w).heap.size (PW w) W):aD w.heap.size w W:=(NB w).trans (h.mono (by have:=WT w;omega))
set_option maxRecDepth 10000 in theorem Xl(s:ByteArray)(F:1<=s.size)(hz:s.size<=1000)(w:ac):ap ae 247 #[ad s] w fun e w'=>e=aq (o' (mL s))/\aD w.heap.size w w':=by
 have zp:=qG;by_cases h2:s.size<2
 .have hR:mL s=ab:=by unfold mL;rw[if_neg (by omega)]
  have HR:=aa hR;have d2:decide ((s.size:Int)<2)=true:=by simp;omega
  have JV:=GH;clear hR;go_enter func247,ntmps247;go_wp2_with(first|(refine h_ 298 257 J _ _ J w.heap.size ?_ (fun _=>false) ?_ jd (fun _=>false) 298 ?_ ?_;(.rfl);(.rfl);(.with_reducible exact a7 _ _))|(refine ba (k8 J _ _ w.heap.size (fun _=>false) (I R 0) 298 J J (hQ _ (a7 _ _))) J ⟨?_,?_⟩;(.rw[HR.out];rfl);(.exact below_setRow (NB w) (aA _) _)))
 .have d2:decide ((s.size:Int)<2)=false:=by simp;omega
  have e1:=aqi s 1 (by omega);have b1:=aqj s 1;cases hg:sL (aqh s 1)
  .have hR:mL s=ab:=by unfold mL;rw[if_neg (by rw[hg];simp)]
   have HR:=aa hR;have JV:=GH;clear hR;go_enter func247,ntmps247;go_wp2_with(first|(go_at_call 136;refine(XJ _ b1 _).mono ?_;rintro e w'⟨⟨n,rfl,u⟩,rfl⟩;rw[hg]at u;simp only[Bool.not_false]at u)|(refine h_ 298 257 J _ _ J w.heap.size ?_ (fun _=>false) ?_ jd (fun _=>false) 298 ?_ ?_;(.rfl);(.rfl);(.with_reducible exact a7 _ _))|(refine ba (k8 J _ _ w.heap.size (fun _=>false) (I R 0) 298 J J (hQ _ (a7 _ _))) J ⟨?_,?_⟩;(.rw[HR.out];rfl);(.exact below_setRow (NB w) (aA _) _)))
  .have hR:mL s=U (gK (aqh s 1),false,2):=by unfold mL;rw[if_pos ⟨by omega,hg⟩]
   have HR:=aa hR;clear hR;go_enter func247,ntmps247;go_wp2_with(first|(go_at_call 136;refine(XJ _ b1 _).mono ?_;rintro e w'⟨⟨n,rfl,u⟩,rfl⟩;rw[hg]at u;simp only[Bool.not_true]at u)|(go_at_call 245;refine(Mo _ b1 _).mono ?_;rintro e W⟨rfl,hW⟩)|(refine De J 298 _ _ J (aw (LA 256 (gK (aqh s 1)))) ?_ _ (IQ _) ?_;(.rfl))|(refine h_ 298 257 J _ _ J w.heap.size ?_ (PF (gK (aqh s 1)) false) ?_ jd (fun _=>false) 298 ?_ ?_;(.rfl);(.rfl);(.exact nw hW))|(refine ba (k8 J _ _ w.heap.size (PF (gK (aqh s 1)) false) (I R 2) 298 J J (hQ _ (nw hW))) J ⟨?_,?_⟩;(.rw[HR.out];rfl);(.exact below_setRow (yF hW) (aA _) _)))
end Go.Proofs.YtefdakbahplnbaaGreatDoor.Gl
namespace Go.Proofs.YtefdakbahplnbaaGreatDoor.Gl
open Go.RowKit
attribute[local go_sem]tZ lX il FB
def mg(s:ByteArray):Bool:=decide (2<=s.size)&&aqh s 0==42&&aqh s 1==42
def lH(f:Nat->Bool):Nat->Bool:=fun i=>!f i
def tF(s:ByteArray):Option ((Nat->Bool)×Bool×Nat):=(e4 s).map fun x=>(x.1,false,x.2)
theorem Ym(s:ByteArray):tY s=o' (tF s):=by
 unfold tY tF;cases e4 s with
  |none=>rfl
  |some x=>rfl
def cw(s:ByteArray):Option ((Nat->Bool)×Bool×Nat):=if mg s=true then U (lH fun _=>false,true,2)else if aqh s 0=42 then U (lH (gK 47),true,1)else if aqh s 0=63 then U (lH (gK 47),false,1)else if aqh s 0=91 then tF s else if aqh s 0=92 then mL s else if qV (aqh s 0)=true then U (gK (aqh s 0),false,1)else ab
theorem ahv(s:ByteArray):y_ s.data.toList [42,42]=mg s:=by
 unfold mg aqh;rw[Lib.size_eq];cases h:s.data.toList with
  |nil=>simp[y_]
  |cons a l=>
   cases l with
    |nil=>simp[y_,List.isPrefixOf]
    |cons b l=>
     simp only[y_,List.isPrefixOf,List.getD_cons_zero,List.getD_cons_succ,List.length_cons];rw[Bool.eq_iff_iff];simp only[Bool.and_true,Bool.and_eq_true,beq_iff_eq,decide_eq_true_eq,<-UInt8.toNat_inj];constructor;.rintro⟨q,h2⟩;exact⟨⟨by omega,q.symm⟩,h2.symm⟩
     .rintro⟨⟨_,q⟩,h2⟩;exact⟨q.symm,h2.symm⟩
theorem yl(s:ByteArray)(w:ac):ap ae 243 #[ad s,ad ⟨#[42,42]⟩] w fun e w'=>e=aq (aH (mg s))/\w'=w:=(WN s ⟨#[42,42]⟩ w).mono fun e w'⟨he,hw⟩=>⟨by rw[he];exact gm (ahv s),hw⟩
theorem EQ{w W V:ac}(h:aD (PW w).heap.size (PW w) W)(k:aD W.heap.size W V):aD (PW w).heap.size (PW w) V:=h.trans (k.mono h.size)
set_option maxRecDepth 10000 in set_option maxHeartbeats 400000 in theorem ajR(s:ByteArray)(F:1<=s.size)(hz:s.size<=1000)(st:mg s=true)(w:ac):ap ae 217 #[ad s] w fun e w'=>e=aq (o' (cw s))/\aD w.heap.size w w':=by
 have hR:cw s=U (lH fun _=>false,true,2):=by unfold cw;rw[if_pos st]
 have HR:=aa hR;clear hR;have zp:=qG;have fE:=aqi s 0 (by omega);have b_:=aqj s 0;have Hn:=FV;go_enter func217,ntmps217;go_wp2_with(first|(go_at_call 243;refine(yl s _).mono ?_;rintro e w'⟨rfl,rfl⟩)|(go_at_call 244;refine(Nd (fun _=>false) _).mono ?_;rintro e W⟨rfl,hW⟩)|(refine abG J 298 _ _ _ _ J (aw (LA 256 (lH fun _=>false))) (aH true) ?_ ?_ _ (Zo _ _) ?_;(.rfl);(.rfl))|(refine h_ 298 257 J _ _ J w.heap.size ?_ (PF (lH fun _=>false) true) ?_ jd (fun _=>false) 298 ?_ ?_;(.rfl);(.rfl);(.exact nw hW))|(refine ba (k8 J _ _ w.heap.size (PF (lH fun _=>false) true) (I R 2) 298 J J (hQ _ (nw hW))) J ⟨?_,?_⟩;(.rw[HR.out];rfl);(.exact below_setRow (yF hW) (aA _) _)))
set_option maxRecDepth 10000 in set_option maxHeartbeats 400000 in theorem aoj(s:ByteArray)(F:1<=s.size)(hz:s.size<=1000)(st:mg s=false)(eX:aqh s 0=42)(w:ac):ap ae 217 #[ad s] w fun e w'=>e=aq (o' (cw s))/\aD w.heap.size w w':=by
 have hR:cw s=U (lH (gK 47),true,1):=by unfold cw;rw[if_neg (by rw[st];simp)];rw[if_pos eX]
 have HR:=aa hR;clear hR;have zp:=qG;have fE:=aqi s 0 (by omega);have b_:=aqj s 0;have xG:((aqh s 0:Int)==42)=true:=by rw[beq_iff_eq];omega
 clear eX;go_enter func217,ntmps217;go_wp2_with(first|(go_at_call 243;refine(yl s _).mono ?_;rintro e w'⟨rfl,rfl⟩)|(go_at_call 245;refine(Mo 47 (by omega) _).mono ?_;rintro e W⟨rfl,hW⟩)|(go_at_call 244;refine(Nd (gK 47) _).mono ?_;rintro e V⟨rfl,hV⟩)|(refine abG J 298 _ _ _ _ J (aw (LA 256 (lH (gK 47)))) (aH true) ?_ ?_ _ (Zo _ _) ?_;(.rfl);(.rfl))|(refine h_ 298 257 J _ _ J w.heap.size ?_ (PF (lH (gK 47)) true) ?_ jd (fun _=>false) 298 ?_ ?_;(.rfl);(.rfl);(.exact nw (EQ hW hV)))|(refine ba (k8 J _ _ w.heap.size (PF (lH (gK 47)) true) (I R 1) 298 J J (hQ _ (nw (EQ hW hV)))) J ⟨?_,?_⟩;(.rw[HR.out];rfl);(.exact below_setRow (yF (EQ hW hV)) (aA _) _)))
set_option maxRecDepth 10000 in set_option maxHeartbeats 400000 in theorem aeB(s:ByteArray)(F:1<=s.size)(hz:s.size<=1000)(st:mg s=false)(sl:aqh s 0≠42)(kq:aqh s 0=63)(w:ac):ap ae 217 #[ad s] w fun e w'=>e=aq (o' (cw s))/\aD w.heap.size w w':=by
 have hR:cw s=U (lH (gK 47),false,1):=by unfold cw;rw[if_neg (by rw[st];simp)];rw[if_neg sl,if_pos kq]
 have HR:=aa hR;clear hR;have zp:=qG;have fE:=aqi s 0 (by omega);have b_:=aqj s 0;have xG:((aqh s 0:Int)==42)=false:=by rw[beq_eq_false_iff_ne];omega
 have sB:((aqh s 0:Int)==63)=true:=by rw[beq_iff_eq];omega
 clear kq;go_enter func217,ntmps217;go_wp2_with(first|(go_at_call 243;refine(yl s _).mono ?_;rintro e w'⟨rfl,rfl⟩)|(go_at_call 245;refine(Mo 47 (by omega) _).mono ?_;rintro e W⟨rfl,hW⟩)|(go_at_call 244;refine(Nd (gK 47) _).mono ?_;rintro e V⟨rfl,hV⟩)|(refine De J 298 _ _ J (aw (LA 256 (lH (gK 47)))) ?_ _ (IQ _) ?_;(.rfl))|(refine h_ 298 257 J _ _ J w.heap.size ?_ (PF (lH (gK 47)) false) ?_ jd (fun _=>false) 298 ?_ ?_;(.rfl);(.rfl);(.exact nw (EQ hW hV)))|(refine ba (k8 J _ _ w.heap.size (PF (lH (gK 47)) false) (I R 1) 298 J J (hQ _ (nw (EQ hW hV)))) J ⟨?_,?_⟩;(.rw[HR.out];rfl);(.exact below_setRow (yF (EQ hW hV)) (aA _) _)))
set_option maxRecDepth 10000 in set_option maxHeartbeats 400000 in theorem ad'(s:ByteArray)(F:1<=s.size)(hz:s.size<=1000)(st:mg s=false)(sl:aqh s 0≠42)(vt:aqh s 0≠63)(gB:aqh s 0=91)(hP:tF s=ab)(w:ac):ap ae 217 #[ad s] w fun e w'=>e=aq (o' (cw s))/\aD w.heap.size w w':=by
 have hR:cw s=ab:=by unfold cw;rw[if_neg (by rw[st];simp)];rw[if_neg sl,if_neg vt,if_pos gB];exact hP
 have HR:=aa hR;clear hR;have zp:=qG;have fE:=aqi s 0 (by omega);have b_:=aqj s 0;have xG:((aqh s 0:Int)==42)=false:=by rw[beq_eq_false_iff_ne];omega
 have sB:((aqh s 0:Int)==63)=false:=by rw[beq_eq_false_iff_ne];omega
 have wj:((aqh s 0:Int)==91)=true:=by rw[beq_iff_eq];omega
 clear gB;have HV:=aa (show tY s=az #[aw (LA 257 (fun _=>false)),I R 0]from by rw[Ym,hP];rfl);clear hP;go_enter func217,ntmps217;go_wp2_with(first|(go_at_call 243;refine(yl s _).mono ?_;rintro e w'⟨rfl,rfl⟩)|(go_at_call 246;refine(ab5 s F hz _).mono ?_;rintro e W⟨rfl,hW⟩;rw[HV.out])|(refine h_ 298 257 J _ _ J w.heap.size ?_ (fun _=>false) ?_ jd (fun _=>false) 298 ?_ ?_;(.rfl);(.rfl);(.exact nw hW))|(refine ba (k8 J _ _ w.heap.size (fun _=>false) (I R 0) 298 J J (hQ _ (nw hW))) J ⟨?_,?_⟩;(.rw[HR.out];rfl);(.exact below_setRow (yF hW) (aA _) _)))
set_option maxRecDepth 10000 in set_option maxHeartbeats 400000 in theorem ais(s:ByteArray)(F:1<=s.size)(hz:s.size<=1000)(st:mg s=false)(sl:aqh s 0≠42)(vt:aqh s 0≠63)(gB:aqh s 0=91)(f:Nat->Bool)(m:Bool)(n:Nat)(hP:tF s=U (f,m,n))(w:ac):ap ae 217 #[ad s] w fun e w'=>e=aq (o' (cw s))/\aD w.heap.size w w':=by
 have hR:cw s=U (f,m,n):=by unfold cw;rw[if_neg (by rw[st];simp)];rw[if_neg sl,if_neg vt,if_pos gB];exact hP
 have HR:=aa hR;clear hR;have zp:=qG;have fE:=aqi s 0 (by omega);have b_:=aqj s 0;have xG:((aqh s 0:Int)==42)=false:=by rw[beq_eq_false_iff_ne];omega
 have sB:((aqh s 0:Int)==63)=false:=by rw[beq_eq_false_iff_ne];omega
 have wj:((aqh s 0:Int)==91)=true:=by rw[beq_iff_eq];omega
 clear gB;have HV:=aa (show tY s=az #[aw (LA 257 (PF f m)),I R n]from by rw[Ym,hP];rfl);clear hP;go_enter func217,ntmps217;go_wp2_with(first|(go_at_call 243;refine(yl s _).mono ?_;rintro e w'⟨rfl,rfl⟩)|(go_at_call 246;refine(ab5 s F hz _).mono ?_;rintro e W⟨rfl,hW⟩;rw[HV.out])|(refine h_ 298 257 J _ _ J w.heap.size ?_ (PF f m) ?_ jd (fun _=>false) 298 ?_ ?_;(.rfl);(.rfl);(.exact nw hW))|(refine ba (k8 J _ _ w.heap.size (PF f m) (I R n) 298 J J (hQ _ (nw hW))) J ⟨?_,?_⟩;(.rw[HR.out];rfl);(.exact below_setRow (yF hW) (aA _) _)))
set_option maxRecDepth 10000 in set_option maxHeartbeats 400000 in theorem aoN(s:ByteArray)(F:1<=s.size)(hz:s.size<=1000)(st:mg s=false)(sl:aqh s 0≠42)(vt:aqh s 0≠63)(Ch:aqh s 0≠91)(jl:aqh s 0=92)(hP:mL s=ab)(w:ac):ap ae 217 #[ad s] w fun e w'=>e=aq (o' (cw s))/\aD w.heap.size w w':=by
 have hR:cw s=ab:=by unfold cw;rw[if_neg (by rw[st];simp)];rw[if_neg sl,if_neg vt,if_neg Ch,if_pos jl];exact hP
 have HR:=aa hR;clear hR;have zp:=qG;have fE:=aqi s 0 (by omega);have b_:=aqj s 0;have xG:((aqh s 0:Int)==42)=false:=by rw[beq_eq_false_iff_ne];omega
 have sB:((aqh s 0:Int)==63)=false:=by rw[beq_eq_false_iff_ne];omega
 have wj:((aqh s 0:Int)==91)=false:=by rw[beq_eq_false_iff_ne];omega
 have xU:((aqh s 0:Int)==92)=true:=by rw[beq_iff_eq];omega
 clear jl;have HV:=aa (show o' (mL s)=az #[aw (LA 257 (fun _=>false)),I R 0]from by rw[hP];rfl);clear hP;go_enter func217,ntmps217;go_wp2_with(first|(go_at_call 243;refine(yl s _).mono ?_;rintro e w'⟨rfl,rfl⟩)|(go_at_call 247;refine(Xl s F hz _).mono ?_;rintro e W⟨rfl,hW⟩;rw[HV.out])|(refine h_ 298 257 J _ _ J w.heap.size ?_ (fun _=>false) ?_ jd (fun _=>false) 298 ?_ ?_;(.rfl);(.rfl);(.exact nw hW))|(refine ba (k8 J _ _ w.heap.size (fun _=>false) (I R 0) 298 J J (hQ _ (nw hW))) J ⟨?_,?_⟩;(.rw[HR.out];rfl);(.exact below_setRow (yF hW) (aA _) _)))
set_option maxRecDepth 10000 in set_option maxHeartbeats 400000 in theorem anO(s:ByteArray)(F:1<=s.size)(hz:s.size<=1000)(st:mg s=false)(sl:aqh s 0≠42)(vt:aqh s 0≠63)(Ch:aqh s 0≠91)(jl:aqh s 0=92)(f:Nat->Bool)(m:Bool)(n:Nat)(hP:mL s=U (f,m,n))(w:ac):ap ae 217 #[ad s] w fun e w'=>e=aq (o' (cw s))/\aD w.heap.size w w':=by
 have hR:cw s=U (f,m,n):=by unfold cw;rw[if_neg (by rw[st];simp)];rw[if_neg sl,if_neg vt,if_neg Ch,if_pos jl];exact hP
 have HR:=aa hR;clear hR;have zp:=qG;have fE:=aqi s 0 (by omega);have b_:=aqj s 0;have xG:((aqh s 0:Int)==42)=false:=by rw[beq_eq_false_iff_ne];omega
 have sB:((aqh s 0:Int)==63)=false:=by rw[beq_eq_false_iff_ne];omega
 have wj:((aqh s 0:Int)==91)=false:=by rw[beq_eq_false_iff_ne];omega
 have xU:((aqh s 0:Int)==92)=true:=by rw[beq_iff_eq];omega
 clear jl;have HV:=aa (show o' (mL s)=az #[aw (LA 257 (PF f m)),I R n]from by rw[hP];rfl);clear hP;go_enter func217,ntmps217;go_wp2_with(first|(go_at_call 243;refine(yl s _).mono ?_;rintro e w'⟨rfl,rfl⟩)|(go_at_call 247;refine(Xl s F hz _).mono ?_;rintro e W⟨rfl,hW⟩;rw[HV.out])|(refine h_ 298 257 J _ _ J w.heap.size ?_ (PF f m) ?_ jd (fun _=>false) 298 ?_ ?_;(.rfl);(.rfl);(.exact nw hW))|(refine ba (k8 J _ _ w.heap.size (PF f m) (I R n) 298 J J (hQ _ (nw hW))) J ⟨?_,?_⟩;(.rw[HR.out];rfl);(.exact below_setRow (yF hW) (aA _) _)))
set_option maxRecDepth 10000 in set_option maxHeartbeats 400000 in theorem adG(s:ByteArray)(F:1<=s.size)(hz:s.size<=1000)(st:mg s=false)(sl:aqh s 0≠42)(vt:aqh s 0≠63)(Ch:aqh s 0≠91)(PY:aqh s 0≠92)(hp:qV (aqh s 0)=true)(w:ac):ap ae 217 #[ad s] w fun e w'=>e=aq (o' (cw s))/\aD w.heap.size w w':=by
 have hR:cw s=U (gK (aqh s 0),false,1):=by unfold cw;rw[if_neg (by rw[st];simp)];rw[if_neg sl,if_neg vt,if_neg Ch,if_neg PY,if_pos hp]
 have HR:=aa hR;clear hR;have zp:=qG;have fE:=aqi s 0 (by omega);have b_:=aqj s 0;have xG:((aqh s 0:Int)==42)=false:=by rw[beq_eq_false_iff_ne];omega
 have sB:((aqh s 0:Int)==63)=false:=by rw[beq_eq_false_iff_ne];omega
 have wj:((aqh s 0:Int)==91)=false:=by rw[beq_eq_false_iff_ne];omega
 have xU:((aqh s 0:Int)==92)=false:=by rw[beq_eq_false_iff_ne];omega
 go_enter func217,ntmps217;go_wp2_with(first|(go_at_call 243;refine(yl s _).mono ?_;rintro e w'⟨rfl,rfl⟩)|(go_at_call 248;refine(ab9 _ b_ _).mono ?_;rintro e w'⟨rfl,rfl⟩)|(go_at_call 245;refine(Mo _ b_ _).mono ?_;rintro e W⟨rfl,hW⟩)|(refine De J 298 _ _ J (aw (LA 256 (gK (aqh s 0)))) ?_ _ (IQ _) ?_;(.rfl))|(refine h_ 298 257 J _ _ J w.heap.size ?_ (PF (gK (aqh s 0)) false) ?_ jd (fun _=>false) 298 ?_ ?_;(.rfl);(.rfl);(.exact nw hW))|(refine ba (k8 J _ _ w.heap.size (PF (gK (aqh s 0)) false) (I R 1) 298 J J (hQ _ (nw hW))) J ⟨?_,?_⟩;(.rw[HR.out];rfl);(.exact below_setRow (yF hW) (aA _) _)))
set_option maxRecDepth 10000 in set_option maxHeartbeats 400000 in theorem ajC(s:ByteArray)(F:1<=s.size)(hz:s.size<=1000)(st:mg s=false)(sl:aqh s 0≠42)(vt:aqh s 0≠63)(Ch:aqh s 0≠91)(PY:aqh s 0≠92)(hp:qV (aqh s 0)=false)(w:ac):ap ae 217 #[ad s] w fun e w'=>e=aq (o' (cw s))/\aD w.heap.size w w':=by
 have hR:cw s=ab:=by unfold cw;rw[if_neg (by rw[st];simp)];rw[if_neg sl,if_neg vt,if_neg Ch,if_neg PY,if_neg (by rw[hp];simp)]
 have HR:=aa hR;clear hR;have zp:=qG;have fE:=aqi s 0 (by omega);have b_:=aqj s 0;have xG:((aqh s 0:Int)==42)=false:=by rw[beq_eq_false_iff_ne];omega
 have sB:((aqh s 0:Int)==63)=false:=by rw[beq_eq_false_iff_ne];omega
 have wj:((aqh s 0:Int)==91)=false:=by rw[beq_eq_false_iff_ne];omega
 have xU:((aqh s 0:Int)==92)=false:=by rw[beq_eq_false_iff_ne];omega
 have JV:=GH;go_enter func217,ntmps217;go_wp2_with(first|(go_at_call 243;refine(yl s _).mono ?_;rintro e w'⟨rfl,rfl⟩)|(go_at_call 248;refine(ab9 _ b_ _).mono ?_;rintro e w'⟨rfl,rfl⟩)|(refine h_ 298 257 J _ _ J w.heap.size ?_ (fun _=>false) ?_ jd (fun _=>false) 298 ?_ ?_;(.rfl);(.rfl);(.with_reducible exact a7 _ _))|(refine ba (k8 J _ _ w.heap.size (fun _=>false) (I R 0) 298 J J (hQ _ (a7 _ _))) J ⟨?_,?_⟩;(.rw[HR.out];rfl);(.exact below_setRow (NB w) (aA _) _)))
theorem aan(s:ByteArray)(F:1<=s.size)(hz:s.size<=1000)(w:ac):ap ae 217 #[ad s] w fun e w'=>e=aq (o' (cw s))/\aD w.heap.size w w':=by
 cases st:mg s
 .by_cases eX:aqh s 0=42;.exact aoj s F hz st eX w
  .by_cases kq:aqh s 0=63;.exact aeB s F hz st eX kq w
   .by_cases gB:aqh s 0=91
    .cases hP:tF s with
      |none=>exact ad' s F hz st eX kq gB hP w
      |some x=>obtain⟨f,m,n⟩:=x;exact ais s F hz st eX kq gB f m n hP w
    .by_cases jl:aqh s 0=92
     .cases hP:mL s with
       |none=>exact aoN s F hz st eX kq gB jl hP w
       |some x=>obtain⟨f,m,n⟩:=x;exact anO s F hz st eX kq gB jl f m n hP w
     .cases hp:qV (aqh s 0);.exact ajC s F hz st eX kq gB jl hp w
      .exact adG s F hz st eX kq gB jl hp w
 .exact ajR s F hz st w
end Go.Proofs.YtefdakbahplnbaaGreatDoor.Gl
namespace Go.Proofs.YtefdakbahplnbaaGreatDoor.Gl
open Go.RowKit
abbrev Part:=(Nat->Bool)×Bool
def nP(Z:List Part):List ag:=Z.flatMap fun p=>(LA 257 (PF p.1 p.2)).toList
theorem ai0(Z:List Part)(p:Part):nP (Z++[p])=nP Z++(LA 257 (PF p.1 p.2)).toList:=by simp[nP]
theorem ahB{a_:Array bz}{rest:List bz}{o:bz}{a:Act}{w:ac}{aE:eK->Act->ac->Prop}(de:o.guard=ab)(x:gr)(ho:o.op= .load 298 x)(g:Nat)(hx:a.eval x=av (U ⟨g,0,ab⟩))(f:Nat->Bool)(hg:w.heap[g]?=U (.cells (LA 257 f) 298 (0,0)))(h:wpList ae a_ aE rest (a.put o.dst (aw (LA 257 f))) w):wpList ae a_ aE (o::rest) a w:=wpList_load_row de 298 x ho g hx 298 (LA 257 f) (0,0) _ hg underlying298 J (by rw[il];exact jd) h
theorem XQ:∃i,ae.info? 298=U i/\i.zero=U (aw (LA 257 fun _=>false))/\i.size=257/\i.bytes=257:=by
 have hz:=abj;have F:=jd;have hb:(ae.info? 298).map (·.bytes)=U 257:=by kernel_rfl
 cases N:ae.info? 298 with
  |none=>rw[N]at F;simp at F
  |some i=>rw[N]at hz F hb;simp at hz F hb;exact⟨i,J,hz,F,hb⟩
theorem aoa(d5:Nat->Bool):Instr.fill (fun i=>U (i*257,257)) ((Array.range (1*257)).map ((oe 257 fun _=>false)[·%(oe 257 fun _=>false).size]!)) [(0,aw (oe 257 d5))]=U (oe 257 d5):=by kernel_rfl
theorem aiw{a_:Array bz}{rest:List bz}{o:bz}{a:Act}{w:ac}{aE:eK->Act->ac->Prop}(hg:o.guard=ab)(x:gr)(ho:o.op= .buildSlice 258 1 #[(0,x)])(d5:Nat->Bool)(hx:a.eval x=aw (LA 257 d5))(h:wpList ae a_ aE rest (a.put o.dst (ak (U ⟨w.heap.size,0,ab⟩) 1 1)) (w.alloc (.cells (LA 257 d5) 298))):wpList ae a_ aE (o::rest) a w:=by obtain⟨i,hi,hz,F,_⟩:=XQ;refine wpList_buildSlice hg 258 298 1 #[(0,x)] ho (LA 257 d5) i _ underlying258 hi hz (by rw[F];decide) (by rw[F];decide) ?_ h;rw[F];have:=aoa d5;simp only[JI];simpa[hx,pV]using this
theorem W4{w w':ac}(h:aD w.heap.size w w'):w.grownBy w' ab:=⟨h.os,h.tape,h.output,h.size,fun k z _=>h.block k z⟩
theorem akR{w w':ac}{base n:Nat}{v:ag}{xs:List ag}(h:w.ownsRow base 298 257 v n xs)(hb:aD w.heap.size w w'):w'.ownsRow base 298 257 v n xs:=by
 refine h.kept (W4 hb) ?_;cases hv:v.ownBlock with
  |none=>exact .inl J
  |some k=>exact .inr (by simp)
theorem alT{a_:Array bz}{rest:List bz}{o:bz}{a:Act}{w:ac}{aE:eK->Act->ac->Prop}(de:o.guard=ab)(s x:gr)(ho:o.op= .call {callee:= .builtin .append,args:=#[s,x],argTypes:=#[258,258]})(base:Nat)(v:ag)(Z:List Part)(F:a.eval s=v)(cE:w.ownsRow base 298 257 v Z.length (nP Z))(g:Nat)(hx:a.eval x=ak (U ⟨g,0,ab⟩) 1 1)(p:Part)(hg:w.heap[g]?=U (.cells (LA 257 (PF p.1 p.2)) 298 (0,0)))(u:Z.length<=1000)(pE:base<=w.heap.size)(h:∀v' w',w'.ownsRow base 298 257 v' (Z.length+1) (nP (Z++[p]))->w.grownBy w' v.ownBlock->wpList ae a_ aE rest (a.put o.dst v') w'):wpList ae a_ aE (o::rest) a w:=by
 obtain⟨i,hi,hz,cP,lb⟩:=XQ;refine wpList_append_own (P:=ae) w de s x 258 ho base 298 i _ 257 257 underlying258 hi hz cP lb (by simp[JI,il]) (by decide) v Z.length (nP Z) F cE ⟨g,0,ab⟩ 1 1 (LA 257 (PF p.1 p.2)).toList hx (by simp[il]) ?_ ?_ (by simp only[maxLen];omega) (by omega) pE ?_
 .intro j ay hu;have sv:(⟨g,0,ab⟩:Addr).add j=⟨g,j,ab⟩:=by unfold Addr.add;split<;>simp_all
  rw[sv,aT w g j _ _ _ hg];simpa using hu
 .intro ay hu;have:=P9 257 (PF p.1 p.2);rw[Array.all_eq_true_iff_forall_mem]at this;exact this ay (by simpa using hu)
 .intro v' w' q h2 _;refine h v' w' ?_ h2;rw[ai0];exact q
end Go.Proofs.YtefdakbahplnbaaGreatDoor.Gl
namespace Go.Proofs.YtefdakbahplnbaaGreatDoor.Gl
open Go.RowKit
attribute[local go_sem]il
def fi:Nat->ByteArray->Nat->Option (List Part)|0,_,_=>ab|k+1,s,a=>if a<s.size then(match cw (s.extract a s.size)with|ab=>ab|U (f,m,n)=>(fi k s (a+n)).map ((f,m)::·))else U []
theorem amR{nb:Bool}{D size n:Nat}{f:Nat->Bool}{x:Option (Nat×(Nat->Bool))}(h:f_ nb D size x=U (f,n)):1<=n:=by
 cases x with
  |none=>simp[f_]at h
  |some al=>
   obtain⟨a,g⟩:=al;simp only[f_]at h;split at h;.simp at h
   .simp only[cm,eg]at h;omega
theorem Lk:∀(k:Nat)(s:ByteArray)(a:Nat)(f:Nat->Bool)(b:Nat)(g:Nat->Bool),a<=s.size->db k s a f=U (b,g)->b<=s.size
 |0,_,_,_,_,_,_,h=>by simp[db]at h
 |k+1,s,a,f,b,g,ha,h=>by
  rw[db]at h;split at h
  .rename_i H;split at h;.simp at h
   .exact Lk k s _ _ b g (Rq s a H.1).1 h
  .simp only[cm,eg]at h;omega
theorem rX{s:ByteArray}(F:1<=s.size){f:Nat->Bool}{m:Bool}{n:Nat}(h:cw s=U (f,m,n)):1<=n/\n<=s.size:=by
 unfold cw at h;split at h;.rename_i bN;simp only[mg,Bool.and_eq_true,decide_eq_true_eq]at bN;simp only[cm,eg]at h;omega
 .split at h;.simp only[cm,eg]at h;omega
  .split at h;.simp only[cm,eg]at h;omega
   .split at h
    .unfold tF at h;cases H:e4 s with
      |none=>simp[H]at h
      |some x=>
       obtain⟨g,k⟩:=x;simp only[H,xg,cm,eg]at h;obtain⟨rfl,rfl,rfl⟩:=h;unfold e4 at H;refine⟨amR H,?_⟩;cases cX:db (s.size+1) s (g' s) fun _=>false with
        |none=>simp[cX,f_]at H
        |some al=>
         obtain⟨b,Df⟩:=al;have hb:g' s<=s.size:=by
          unfold g' kT;split;.rename_i hh;simp at hh;omega
          .omega
         have:=Lk _ _ _ _ _ _ hb cX;simp only[cX,f_]at H;split at H;.simp at H
         .simp only[cm,eg]at H;omega
    .split at h
     .unfold mL at h;split at h;.simp only[cm,eg]at h;omega
      .simp at h
     .split at h;.simp only[cm,eg]at h;omega
      .simp at h
def aqp(p:ByteArray):Nat⊕List Part:=if 24<p.size then .inl 2 else if p.size=0 then .inl 4 else match fi (p.size+1) p 0 with|ab=> .inl 4|U Z=> .inr Z
def amw(w:ac)(r:Nat⊕List Part)(e:Ending)(w':ac):Prop:=aD w.heap.size w w'/\match r with| .inl n=>e=aq (az #[ak ab 0 0, .iface 43 (I R n)])| .inr Z=>∃E,e=aq (az #[E, .nilIface])/\w'.ownsRow w.heap.size 298 257 E Z.length (nP Z)
set_option maxRecDepth 10000 in set_option maxHeartbeats 1000000 in theorem Nn(p:ByteArray)(hz:p.size<=1000)(w:ac):ap ae 175 #[ad p] w (amw w (aqp p)):=by
 by_cases qe:24<p.size
 .have hR:aqp p= .inl 2:=by unfold aqp;rw[if_pos qe]
  rw[hR];go_enter func175,ntmps175;go_wp2;go_ret2;exact⟨aS _ _,J⟩
 .by_cases h0:p.size=0
  .have hR:aqp p= .inl 4:=by unfold aqp;rw[if_neg qe,if_pos h0]
   rw[hR];have b_:((p.size:Int)==0)=true:=by rw[beq_iff_eq];omega
   have Lf:=aa h0;clear h0;go_enter func175,ntmps175;go_wp2;go_ret2;exact⟨aS _ _,J⟩
  .have hR:∀r,fi (p.size+1) p 0=r->aqp p=(match r with|ab=> .inl 4|U Z=> .inr Z):=by intro r L;unfold aqp;rw[if_neg qe,if_neg h0,L]
   have b_:((p.size:Int)==0)=false:=by rw[beq_eq_false_iff_ne];omega
   have HR:=aa hR;clear hR h0;go_enter func175,ntmps175;go_wp2_with fail;go_loopw[4,5](fun l qN wr=>∃(a:Nat)(Z:List Part)(b6:Nat),a<=p.size/\Z.length<=a/\qN=I R a/\p.size-a<b6/\fi (p.size+1) p 0=(fi b6 p a).map (Z++·)/\wr.ownsRow w.heap.size 298 257 l Z.length (nP Z)/\aD w.heap.size w wr)(fun _ qN _=>p.size-(intOf qN).toNat);case atStart=>exact⟨0,[],p.size+1,by omega,by simp,J,by omega,by simp,World.ownsRow_nil _ _ _ _,aS _ _⟩
   case round=>
    obtain⟨a,Z,b6,ha,wB,rfl,F0,XX,cE,hB⟩:=hrel;obtain⟨fu,rfl⟩:∃fu,b6=fu+1:=⟨b6-1,by omega⟩;have E1:=aa XX;have K1:=aa cE;clear XX cE;by_cases am:a<p.size
    .cases hF:cw (p.extract a p.size)with
      |none=>have aaa:aqp p= .inl 4:=HR.out ab (by rw[E1.out,fi,if_pos am,hF];rfl);have HV:=aa (show o' (cw (p.extract a p.size))=az #[aw (LA 257 fun _=>false),I R 0]by rw[hF];rfl);have HN:=aa aaa;have zp:=qG;clear hF aaa HR E1;go_wp2_with(first|(go_at_call 217;refine(aan _ (by rw[size_extract];omega) (by rw[size_extract];omega) _).mono ?_;rintro e W⟨rfl,hW⟩;rw[HV.out])|(refine h_ 298 257 J _ _ J W.heap.size ?_ (fun _=>false) ?_ jd (fun _=>false) 298 ?_ ?_;(.rfl);(.rfl);(.with_reducible exact a7 _ _)));go_ret2;rw[HN.out];exact⟨below_setRow ((hB.trans (hW.mono hB.size)).alloc (bL hB.size hW.size) _) (bL hB.size hW.size) _,J⟩
      |some x=>
       obtain⟨f,m,n⟩:=x;have kP:=rX (by rw[size_extract];omega) hF;rw[size_extract]at kP;have kr:fi (p.size+1) p 0=(fi fu p (a+n)).map ((Z++[(f,m)])++·):=by rw[E1.out,fi,if_pos am,hF];show TT _ (TT _ (fi fu p (a+n)))=_;generalize fi fu p (a+n)=r;cases r<;>simp
       have HX:=aa kr;have HV:=aa (show o' (cw (p.extract a p.size))=az #[aw (LA 257 (PF f m)),I R n]by rw[hF];rfl);have zp:=qG;have n0:((n:Int)==0)=false:=by rw[beq_eq_false_iff_ne];omega
       clear hF kr HR E1;go_wp2_with(first|(go_at_call 217;refine(aan _ (by rw[size_extract];omega) (by rw[size_extract];omega) _).mono ?_;rintro e W⟨rfl,hW⟩;rw[HV.out])|(refine h_ 298 257 J _ _ J W.heap.size ?_ (PF f m) ?_ jd (fun _=>false) 298 ?_ ?_;(.rfl);(.rfl);(.with_reducible exact a7 _ _);refine aqt (fun V=>aD W.heap.size W V/\V.heap[W.heap.size]?=U (.cells (LA 257 (PF f m)) 298 (0,0))) ⟨below_setRow ((aS _ _).alloc (aA _) _) (aA _) _,hQ _ (a7 _ _)⟩ ?_;rintro V⟨hV,hVp⟩)|(refine ahB J _ J W.heap.size ?_ (PF f m) ?_ ?_;(.rfl);(.exact hVp))|(refine aiw J _ J (PF f m) ?_ ?_;(.rfl))|(refine alT J _ _ J w.heap.size u4 Z ?_ ?_ V.heap.size ?_ (f,m) ?_ (by omega) ?_ ?_;(.rfl);(.exact akR K1.out ((hW.trans (hV.mono hW.size)).alloc (bL hW.size hV.size) _));(.rfl);(.exact a7 _ _);(.exact bL hB.size (bL hW.size (bL hV.size (by simp))));intro v' w2 dA hg2));go_roundw;case rel=>have cP:w.heap.size<=(V.alloc (Obj.cells (LA 257 (PF f m)) 298)).heap.size:=bL hB.size (bL hW.size (bL hV.size (by simp)));have k9:aD w.heap.size w (V.alloc (Obj.cells (LA 257 (PF f m)) 298)):=((hB.trans (hW.mono hB.size)).trans (hV.mono (bL hB.size hW.size))).alloc (bL hB.size (bL hW.size hV.size)) _;exact⟨a+n,Z++[(f,m)],fu,by omega,by simp;omega,by go_num,by omega,HX.out,by simpa using dA,k9.grown hg2 cP fun k z=>(K1.out.lt k z).1⟩
       case measure=>simp[intOf];omega
    .have eR:fi (p.size+1) p 0=U Z:=by rw[E1.out,fi,if_neg am];simp
     have HN:=aa (HR.out _ eR);have cE:=K1.out;clear eR HR E1 K1;have HO:=aa cE;clear cE;go_wp2_with fail;go_ret2;rw[HN.out];exact⟨hB,_,J,HO.out⟩
end Go.Proofs.YtefdakbahplnbaaGreatDoor.Gl
namespace Go.Proofs.YtefdakbahplnbaaGreatDoor.Gl
open Go.RowKit
attribute[local go_sem]tZ lX il FB
def fY(Z:List Part)(i:Nat):Nat->Bool:=(Z.getD i (fun _=>false,false)).1
def fa(Z:List Part)(i:Nat):Bool:=(Z.getD i (fun _=>false,false)).2
def zi(w:ac)(b:Nat)(Z:List Part):Prop:=b<w.heap.size/\(∀i,i<Z.length->w.cell? ⟨b,i*257+256,ab⟩=U (aH (fa Z i)))/\∀i c,i<Z.length->c<256->w.cell? ⟨b,i*257+c,ab⟩=U (aH (fY Z i c))
theorem zi.later{w w':ac}{b:Nat}{Z:List Part}(h:zi w b Z)(hb:aD w.heap.size w w'):zi w' b Z:=⟨dk h.1 hb.size,fun i hi=>by rw[hb.cell (p:=⟨b,_,ab⟩) h.1];exact h.2.1 i hi,fun i c hi H=>by rw[hb.cell (p:=⟨b,_,ab⟩) h.1];exact h.2.2 i c hi H⟩
theorem Rr:∀(Z:List Part)(i j:Nat),i<Z.length->j<257->(nP Z)[i*257+j]?=U (aH (PF (fY Z i) (fa Z i) j))
 |[],i,j,h,_=>by simp at h
 |p::Z,0,j,_,hj=>by
  have e:nP (p::Z)=(LA 257 (PF p.1 p.2)).toList++nP Z:=by simp[nP]
  rw[e,Nat.zero_mul,Nat.zero_add,List.getElem?_append_left (by simp[il];exact hj)];simpa[fY,fa]using lX 257 (PF p.1 p.2) j hj
 |p::Z,i+1,j,h,hj=>by
  have e:nP (p::Z)=(LA 257 (PF p.1 p.2)).toList++nP Z:=by simp[nP]
  rw[e,List.getElem?_append_right (by simp[il];omega)];have e2:(i+1)*257+j-(LA 257 (PF p.1 p.2)).toList.length=i*257+j:=by simp[il];omega
  rw[e2,Rr Z i j (by simpa using h) hj];rfl
theorem aoX{w:ac}{base:Nat}{E:ag}{Z:List Part}(h:w.ownsRow base 298 257 E Z.length (nP Z))(bo:Z≠[]):∃b cap,E=ak (U ⟨b,0,ab⟩) Z.length cap/\base<=b/\zi w b Z:=by
 have u:Z.length≠0:=by simpa using bo
 rcases h.2 with⟨_,h0⟩|⟨g,cap,co,rfl,hb,hg,_⟩;.exact absurd h0 u
 .have H:∀j ay,(nP Z)[j]?=U ay->w.cell? ⟨g,j,ab⟩=U ay:=fun j ay hu=>by
   have:=h.cells (g:=g) J j ay hu;have sv:(⟨g,0,ab⟩:Addr).add j=⟨g,j,ab⟩:=by unfold Addr.add;split<;>simp_all
   rwa[sv]at this
  refine⟨g,cap,J,hb,(bM.1 hg).1,fun i hi=>?_,fun i c hi hc'=>?_⟩;.have:=H _ _ (Rr Z i 256 hi (by omega));simpa[PF]using this
  .have:=H _ _ (Rr Z i c hi (by omega));rw[this,PF,if_neg (by omega)]
def jv(Z:List Part)(f:Nat->Bool):Nat->Nat->Bool|0=>f|k+1=>if(jv Z f k k&&fa Z k)=true then cS (jv Z f k) (k+1) true else jv Z f k
theorem ad0{Z:List Part}{f:Nat->Bool}{k:Nat}(q:jv Z f k k=true)(h2:fa Z k=true):jv Z f (k+1)=cS (jv Z f k) (k+1) true:=by rw[jv,if_pos (by rw[q,h2];rfl)]
theorem YY{Z:List Part}{f:Nat->Bool}{k:Nat}(h:(jv Z f k k&&fa Z k)=false):jv Z f (k+1)=jv Z f k:=by rw[jv,if_neg (by rw[h];simp)]
set_option maxRecDepth 10000 in set_option maxHeartbeats 400000 in theorem Xt(Z:List Part)(b cap:Nat)(f:Nat->Bool)(w:ac)(u:Z.length<=24)(hp:zi w b Z):ap ae 262 #[ak (U ⟨b,0,ab⟩) Z.length cap,aw (LA 25 f)] w fun e w'=>e=aq (aw (LA 25 (jv Z f Z.length)))/\aD w.heap.size w w':=by
 obtain⟨hb,hm,_⟩:=hp;have PP:=aa hm;clear hm;have Hn:=R3;go_enter func262,ntmps262;go_wp2_with fail;go_loopw[8](fun i w'=>∃k:Nat,k<=Z.length/\i=I R k/\w'=(w.alloc (.cells (LA 25 (jv Z f k)) 346)).alloc (.cells (LA 25 fun _=>false) 346))(fun i _=>Z.length-(intOf i).toNat);case atStart=>exact⟨0,by omega,J,J⟩
 case round=>
  obtain⟨k,z,rfl,rfl⟩:=hrel;by_cases am:k<Z.length
  .have H:=PP.out k am;have Nl:k<25:=by omega
   have sM:=lX 25 (jv Z f k) (k+1) (by omega);cases q:jv Z f k k
   .have HS:=aa (YY (Z:=Z) (f:=f) (k:=k) (by rw[q];rfl));go_wp2_with fail;go_roundw;case rel=>exact⟨k+1,by omega,by go_num,by rw[HS.out]⟩
    case measure=>simp[intOf];omega
   .cases h2:fa Z k
    .have HS:=aa (YY (Z:=Z) (f:=f) (k:=k) (by rw[q,h2];rfl));rw[h2]at H;go_wp2_with fail;go_roundw;case rel=>exact⟨k+1,by omega,by go_num,by rw[HS.out]⟩
     case measure=>simp[intOf];omega
    .have HS:=aa (ad0 q h2);rw[h2]at H;go_wp2_with fail;go_roundw;case rel=>exact⟨k+1,by omega,by go_num,by rw[HS.out]⟩
     case measure=>simp[intOf];omega
  .have e:k=Z.length:=by omega
   have He:=aa e;clear e;go_wp2_with(first|(refine Bf 346 25 25 4 J _ J w.heap.size ?_ underlying346 xJ (jv Z f k) 346 ?_ ?_;(.rfl);(.with_reducible exact AQ _ _ _))|(refine h_ 346 25 J _ _ J (w.heap.size+1) ?_ (jv Z f k) ?_ xJ (fun _=>false) 346 ?_ ?_;(.rfl);(.rfl);(.with_reducible exact y' _ _ _))|(refine ba (Ka 25 25 4 J _ _ (w.heap.size+1) _ 346 J (hQ _ (y' _ _ _)) underlying346 xJ) J ⟨?_,?_⟩;(.rw[He.out]);(.exact below_setRow (((aS _ _).alloc (aA _) _).alloc (by simp) _) (by omega) _)))
def jD(Z:List Part)(f:Nat->Bool)(b:Nat):Nat->Nat->Bool|0=>fun _=>false|k+1=>if(f k&&fY Z k b)=true then(if fa Z k=true then cS (jD Z f b k) k true else cS (jD Z f b k) (k+1) true)else jD Z f b k
theorem Vm{Z:List Part}{f:Nat->Bool}{b k:Nat}(h:(f k&&fY Z k b)=false):jD Z f b (k+1)=jD Z f b k:=by rw[jD,if_neg (by rw[h];simp)]
theorem aoh{Z:List Part}{f:Nat->Bool}{b k:Nat}(q:f k=true)(h2:fY Z k b=true)(h3:fa Z k=true):jD Z f b (k+1)=cS (jD Z f b k) k true:=by rw[jD,if_pos (by rw[q,h2];rfl),if_pos h3]
theorem alb{Z:List Part}{f:Nat->Bool}{b k:Nat}(q:f k=true)(h2:fY Z k b=true)(h3:fa Z k=false):jD Z f b (k+1)=cS (jD Z f b k) (k+1) true:=by rw[jD,if_pos (by rw[q,h2];rfl),if_neg (by rw[h3];simp)]
def aqa(w:ac)(f g:Nat->Bool):ac:=((w.alloc (.cells (LA 25 f) 346)).alloc (.cells (LA 25 fun _=>false) 346)).alloc (.cells (LA 25 g) 346)
theorem WV(w:ac)(f g:Nat->Bool):(aqa w f g).heap[w.heap.size+1]?=U (.cells (LA 25 fun _=>false) 346 (0,0)):=by unfold aqa;have h:=(acu ((w.alloc (.cells (LA 25 f) 346)).alloc (.cells (LA 25 fun _=>false) 346)) (.cells (LA 25 g) 346) (w.heap.size+1) (by simp));exact h.trans (y' _ _ _)
theorem NP(w:ac)(f g:Nat->Bool):(aqa w f g).heap[w.heap.size+1+1]?=U (.cells (LA 25 g) 346 (0,0)):=by unfold aqa;have:=a7 ((w.alloc (.cells (LA 25 f) 346)).alloc (.cells (LA 25 fun _=>false) 346)) (.cells (LA 25 g) 346);simpa using this
theorem aqb(w:ac)(f g:Nat->Bool):aD w.heap.size w (aqa w f g):=(((aS _ _).alloc (aA _) _).alloc (by simp) _).alloc (by simp;omega) _
theorem aqd(w:ac)(f g:Nat->Bool):(aqa w f g).heap[w.heap.size]?=U (.cells (LA 25 f) 346 (0,0)):=by unfold aqa;have h:=(acu ((w.alloc (.cells (LA 25 f) 346)).alloc (.cells (LA 25 fun _=>false) 346)) (.cells (LA 25 g) 346) w.heap.size (by simp;omega));exact h.trans (AQ _ _ _)
theorem aqe(w:ac)(f g:Nat->Bool)(b i:Nat)(h:b<w.heap.size):(aqa w f g).cell? ⟨b,i,ab⟩=w.cell? ⟨b,i,ab⟩:=(aqb w f g).cell (p:=⟨b,i,ab⟩) h
theorem aga(w:ac)(f g:Nat->Bool)(i:Nat)(h:i<25):(aqa w f g).cell? ⟨w.heap.size,i,ab⟩=U (aH (f i)):=by rw[aT _ _ i _ _ _ (aqd w f g),lX 25 f i h]
theorem Tj(w:ac)(f g:Nat->Bool)(i:Nat)(h:i<25):(aqa w f g).cell? ⟨w.heap.size+1+1,i,ab⟩=U (aH (g i)):=by rw[aT _ _ i _ _ _ (NP w f g),lX 25 g i h]
theorem aqc(w:ac)(f g:Nat->Bool)(i:Nat):(aqa w f g).frozen? ⟨w.heap.size+1+1,i,ab⟩=false:=cy _ _ i _ _ (NP w f g)
theorem aqf(w:ac)(f g:Nat->Bool)(i:Nat)(b:Bool):(aqa w f g).setCell ⟨w.heap.size+1+1,i,ab⟩ (aH b)=aqa w f (cS g i b):=by
 rw[cJ _ _ i _ _ _ _ (NP w f g),tZ];have h:=World.setRow_alloc_new ((w.alloc (.cells (LA 25 f) 346)).alloc (.cells (LA 25 fun _=>false) 346)) (LA 25 g) (LA 25 (cS g i b)) 346;have e:((w.alloc (.cells (LA 25 f) 346)).alloc (.cells (LA 25 fun _=>false) 346)).heap.size=w.heap.size+1+1:=by simp
 rw[e]at h;exact h
attribute[local go_sem]aqe aga Tj aqc aqf
set_option maxRecDepth 10000 in set_option maxHeartbeats 400000 in theorem ail(Z:List Part)(b cap c:Nat)(f:Nat->Bool)(w:ac)(u:Z.length<=24)(Wp:c<256)(hp:zi w b Z):ap ae 263 #[ak (U ⟨b,0,ab⟩) Z.length cap,aw (LA 25 f),I .u8 c] w fun e w'=>e=aq (aw (LA 25 (jD Z f c Z.length)))/\aD w.heap.size w w':=by
 obtain⟨hb,hm,hl⟩:=hp;have PP:=aa hm;have Pf:=aa hl;clear hm hl;have Hn:=R3;go_enter func263,ntmps263;go_wp2_with fail;go_loopw[11](fun i w'=>∃k:Nat,k<=Z.length/\i=I R k/\w'=aqa w f (jD Z f c k))(fun i _=>Z.length-(intOf i).toNat);case atStart=>exact⟨0,by omega,J,J⟩
 case round=>
  obtain⟨k,z,rfl,rfl⟩:=hrel;by_cases am:k<Z.length
  .have H:=PP.out k am;have sm:=Pf.out k c am Wp;have Nl:k<25:=by omega
   have ht0:=Tj w f (jD Z f c k) k Nl;have mO:=Tj w f (jD Z f c k) (k+1) (by omega);cases q:f k
   .have HS:=aa (Vm (Z:=Z) (f:=f) (b:=c) (k:=k) (by rw[q];rfl));go_wp2_with fail;go_roundw;case rel=>exact⟨k+1,by omega,by go_num,by rw[HS.out]⟩
    case measure=>simp[intOf];omega
   .cases h2:fY Z k c
    .have HS:=aa (Vm (Z:=Z) (f:=f) (b:=c) (k:=k) (by rw[q,h2];rfl));rw[h2]at sm;go_wp2_with fail;go_roundw;case rel=>exact⟨k+1,by omega,by go_num,by rw[HS.out]⟩
     case measure=>simp[intOf];omega
    .rw[h2]at sm;cases h3:fa Z k
     .have HS:=aa (alb q h2 h3);rw[h3]at H;go_wp2_with fail;go_roundw;case rel=>exact⟨k+1,by omega,by go_num,by rw[HS.out]⟩
      case measure=>simp[intOf];omega
     .have HS:=aa (aoh q h2 h3);rw[h3]at H;go_wp2_with fail;go_roundw;case rel=>exact⟨k+1,by omega,by go_num,by rw[HS.out]⟩
      case measure=>simp[intOf];omega
  .have e:k=Z.length:=by omega
   have He:=aa e;clear e;go_wp2_with(first|(refine Bf 346 25 25 4 J _ J (w.heap.size+1+1) ?_ underlying346 xJ (jD Z f c k) 346 ?_ ?_;(.rfl);(.with_reducible exact NP _ _ _))|(refine h_ 346 25 J _ _ J (w.heap.size+1) ?_ (jD Z f c k) ?_ xJ (fun _=>false) 346 ?_ ?_;(.rfl);(.rfl);(.with_reducible exact WV _ _ _))|(refine ba (Ka 25 25 4 J _ _ (w.heap.size+1) _ 346 J (hQ _ (WV _ _ _)) underlying346 xJ) J ⟨?_,?_⟩;(.rw[He.out]);(.exact below_setRow (aqb _ _ _) (by omega) _)))
end Go.Proofs.YtefdakbahplnbaaGreatDoor.Gl
namespace Go.Proofs.YtefdakbahplnbaaGreatDoor.Gl
open Go.RowKit
attribute[local go_sem]tZ lX il FB
theorem ahN:ae.built 346 [(0,aH true)]=U (LA 25 fun i=>i==0):=by rw[pV];kernel_rfl
def q8(Z:List Part)(s:ByteArray):Nat->Nat->Bool|0=>jv Z (fun i=>i==0) Z.length|k+1=>jv Z (jD Z (q8 Z s k) (aqh s k) Z.length) Z.length
def tr(p s:ByteArray):Bool:=match aqp p with| .inl _=>false| .inr Z=>q8 Z s s.size Z.length
def MW(w:ac)(b g:Nat)(Z:List Part)(f:Nat->Bool)(W:ac):Prop:=aD w.heap.size w W/\zi W b Z/\w.heap.size<=g/\b<g/\W.heap[g]?=U (.cells (LA 25 f) 346 (0,0))
theorem lf{P:jf}{o:bz}{a:Act}{w:ac}{K:Act->ac->Prop}{aE:eK->Act->ac->Prop}{bd:Ending->ac->Prop}(f:FuncId)(args:Array ag)(qc:(execOp a.eval o).run P w= .ok (.enter f args) w)(H:ap P f args w bd)(z:∀e w',bd e w'->∃v,e=aq v/\K (a.put o.dst v) w'):o.wp P a w K aE:=by unfold Oper.wp;rw[qc,Oper.upon_enter];refine H.mono fun e w' hR=>?_;obtain⟨v,rfl,h⟩:=z e w' hR;exact h
theorem aj'{P:jf}{md:FI}{a_:Array bz}{aE:eK->Act->ac->Prop}{b6:Nat}{gz:Array Bool}{a:Act}{w:ac}{i:Nat}{o:bz}(L:FJ md a_ gz=[i])(ho:a_.toList[i]?=U o)(hg:o.guard=ab)(h:∀K:Act->ac->Prop,(∀a w,wpAny P md a_ aE b6 (gz.setIfInBounds i true) a w->K a w)->Oper.wp P o a w K aE):wpAny P md a_ aE (b6+1) gz a w:=by
 refine wpAny_ready L (by simp) ?_;refine AllReady.cons (o:=o) (by simpa using ho) (fun K A=>?_) AllReady.nil;have hw:sF o (yielded a_ a.tmps)=true:=by simp[sF,hg]
 rw[if_pos hw];exact h K A
theorem VX{P:jf}{md:FI}{a_:Array bz}{aE:eK->Act->ac->Prop}{b6:Nat}{gz:Array Bool}{a:Act}{w:ac}(i:Nat){o:bz}(d:Option Tmp)(v:ag)(ho:a_.toList[i]?=U o)(hd:o.dst=d)(F:acv a_=true)(M:acw md a_ gz i=true)(L:(FJ md a_ gz).contains i=true)(qD:∀c a w,aE (.panic c) (a.put d v) w->aE (.panic c) a w)(hy:Yields P a_ o v a)(h:wpAny P md a_ aE b6 (gz.setIfInBounds i true) (a.put d v) w):wpAny P md a_ aE (b6+1) gz a w:=by subst hd;exact wpAny_take (i:=i) (oi:=o) (by simpa using ho) F M L qD hy h
theorem _root_.Go.Proofs.YtefdakbahplnbaaGreatDoor.aR{P:jf}{md:FI}{a_:Array bz}{aE:eK->Act->ac->Prop}{b6:Nat}{gz:Array Bool}{a:Act}{w:ac}(i:Nat){o:bz}(h:∀K:Act->ac->Prop,(∀a w,wpAny P md a_ aE b6 (gz.setIfInBounds i true) a w->K a w)->Oper.wp P o a w K aE)(L:FJ md a_ gz=[i]:=by kernel_rfl)(ho:a_.toList[i]?=U o:=by rfl)(hg:o.guard=ab:=by rfl):wpAny P md a_ aE (b6+1) gz a w:=aj' L ho hg h
theorem _root_.Go.Proofs.YtefdakbahplnbaaGreatDoor.DN{P:jf}{md:FI}{a_:Array bz}{aE:eK->Act->ac->Prop}{b6:Nat}{gz:Array Bool}{a:Act}{w:ac}(i:Nat){o:bz}(d:Option Tmp)(v:ag)(hy:∀w,(execOp a.eval o).run P w= .ok (.value v) w)(h:wpAny P md a_ aE b6 (gz.setIfInBounds i true) (a.put d v) w)(ho:a_.toList[i]?=U o:=by rfl)(hd:o.dst=d:=by rfl)(F:acv a_=true:=by kernel_rfl)(M:acw md a_ gz i=true:=by kernel_rfl)(L:(FJ md a_ gz).contains i=true:=by kernel_rfl)(qD:∀c a w,aE (.panic c) (a.put d v) w->aE (.panic c) a w:=by exact fun _ _ _ h=>h)(hw:sF o (yielded a_ a.tmps)=true:=by rfl):wpAny P md a_ aE (b6+1) gz a w:=VX i d v ho hd F M L qD (Or.inl ⟨hw,hy⟩) h
theorem _root_.Go.Proofs.YtefdakbahplnbaaGreatDoor.aW{P:jf}{md:FI}{a_:Array bz}{aE:eK->Act->ac->Prop}{b6:Nat}{gz:Array Bool}{a:Act}{w:ac}(i:Nat){o:bz}(d:Option Tmp)(v:ag)(h:wpAny P md a_ aE b6 (gz.setIfInBounds i true) (a.put d v) w)(ho:a_.toList[i]?=U o:=by rfl)(hd:o.dst=d:=by rfl)(F:acv a_=true:=by kernel_rfl)(M:acw md a_ gz i=true:=by kernel_rfl)(L:(FJ md a_ gz).contains i=true:=by kernel_rfl)(qD:∀c a w,aE (.panic c) (a.put d v) w->aE (.panic c) a w:=by exact fun _ _ _ h=>h)(hw:sF o (yielded a_ a.tmps)=true:=by rfl)(hy:∀w,(execOp a.eval o).run P w= .ok (.value v) w:=by intro wx;go_simp):wpAny P md a_ aE (b6+1) gz a w:=VX i d v ho hd F M L qD (Or.inl ⟨hw,hy⟩) h
theorem MW.later{w W V:ac}{b g:Nat}{Z:List Part}{f:Nat->Bool}(h:MW w b g Z f W)(hb:aD W.heap.size W V):MW w b g Z f V:=by obtain⟨q,h2,h3,h4,h5⟩:=h;have am:g<W.heap.size:=(bM.1 h5).1;exact⟨q.trans (hb.mono q.size),h2.later hb,h3,h4,(hb.block g am).trans h5⟩
theorem MW.drew{w W:ac}{b g:Nat}{Z:List Part}{f:Nat->Bool}(h:MW w b g Z f W):MW w b g Z f W.drew:=h.later ((aS _ _).drew)
theorem MW.set{w W:ac}{b g:Nat}{Z:List Part}{f jX:Nat->Bool}(h:MW w b g Z f W):MW w b g Z jX (W.setRow g (LA 25 jX)):=by obtain⟨q,⟨p1,p2,p3⟩,h3,h4,h5⟩:=h;have H:∀i,(W.setRow g (LA 25 jX)).cell? ⟨b,i,ab⟩=W.cell? ⟨b,i,ab⟩:=fun i=>World.cell?_of_block (CV W g b _ (by omega));exact⟨below_setRow q h3 _,⟨by simpa using p1,fun i hi=>by rw[H];exact p2 i hi,fun i c hi gb=>by rw[H];exact p3 i c hi gb⟩,h3,h4,hQ _ h5⟩
theorem akq{w W W1:ac}{b:Nat}{Z:List Part}{f:Nat->Bool}(hW:aD w.heap.size w W)(hp:zi W b Z)(dU:aD W.heap.size W W1):MW w b W1.heap.size Z f ((W1.alloc (.cells (LA 25 fun _=>false) 346)).setRow W1.heap.size (LA 25 f)):=by have hb:aD W.heap.size W ((W1.alloc (.cells (LA 25 fun _=>false) 346)).setRow W1.heap.size (LA 25 f)):=below_setRow (dU.alloc dU.size _) dU.size _;exact⟨hW.trans (hb.mono hW.size),hp.later hb,bL hW.size dU.size,dk hp.1 dU.size,hQ _ (a7 _ _)⟩
theorem SV:∀(k:Nat)(p:ByteArray)(a:Nat)(Z:List Part),fi k p a=U Z->Z.length<=p.size-a
 |0,_,_,_,h=>by simp[fi]at h
 |k+1,p,a,Z,h=>by
  rw[fi]at h;split at h
  .rename_i am;split at h;.simp at h
   .rename_i f m n hF;cases L:fi k p (a+n)with
     |none=>rw[L]at h;simp at h
     |some r=>rw[L]at h;simp only[xg,cm]at h;subst h;have:=SV k p (a+n) r L;have hb:=rX (by rw[size_extract];omega) hF;rw[size_extract]at hb;simp only[List.length_cons];omega
  .simp only[cm]at h;subst h;simp
theorem Rm{p:ByteArray}{Z:List Part}(h:aqp p= .inr Z):Z≠[]/\Z.length<=24:=by
 unfold aqp at h;split at h;.simp at h
 .split at h;.simp at h
  .rename_i qe h0;cases N:fi (p.size+1) p 0 with
    |none=>simp[N]at h
    |some qs=>
     simp only[N,Sum.inr.injEq]at h;subst h;refine⟨?_,bL (SV _ _ _ _ N) (by omega)⟩;rw[fi,if_pos (by omega)]at N;intro e;subst e;split at N;.simp at N
     .cases L:fi p.size p (0+_)with
       |none=>rw[L]at N;simp at N
       |some r=>rw[L]at N;simp at N
set_option maxRecDepth 10000 in set_option maxHeartbeats 400000 in theorem ajf(p s:ByteArray)(hz:p.size<=1000)(F:s.size<=1000)(w:ac):ap ae 254 #[ad p,ad s] w fun e w'=>e=aq (aH (tr p s))/\aD w.heap.size w w':=by
 unfold tr;cases hP:aqp p with
  |inl n=>have HP:=aa hP;clear hP;go_enter func254,ntmps254;go_wp2_with(go_at_call 175;refine(Nn p hz _).mono ?_;rw[HP.out];rintro e W⟨hW,rfl⟩);go_ret;exact⟨J,hW⟩
  |inr Z=>
   have wB:=Rm hP;have HP:=aa hP;clear hP;obtain⟨bo,qe⟩:=wB;have Hn:=R3;go_enter func254,ntmps254;go_wp2_with(first|(go_at_call 175;refine(Nn p hz _).mono ?_;rw[HP.out];rintro e W⟨hW,E,rfl,cE⟩;obtain⟨b,cap,rfl,g8,hpi⟩:=aoX cE bo)|(refine De J 346 _ _ J (aH true) ?_ _ ahN ?_;(.rfl))|(go_at_call 262;refine(Xt Z b cap (fun i=>i==0) _ qe hpi).mono ?_;rintro e W1⟨rfl,dU⟩)|(refine h_ 346 25 J _ _ J W1.heap.size ?_ (jv Z (fun i=>i==0) Z.length) ?_ xJ (fun _=>false) 346 ?_ ?_;(.rfl);(.rfl);(.with_reducible exact a7 _ _)));refine IF (MW w b W1.heap.size Z (jv Z (fun i=>i==0) Z.length)) (akq hW hpi dU) ?_;generalize W1.heap.size=g;rintro V0 dR;go_loopw[21](fun i w'=>∃k:Nat,k<=s.size/\i=I R k/\MW w b g Z (q8 Z s k) w')(fun i _=>s.size-(intOf i).toNat);case atStart=>exact⟨0,by omega,J,dR⟩
   case round=>
    obtain⟨k,z,rfl,yS⟩:=hrel;clear dR;by_cases am:k<s.size
    .have nh:=aqi s k am;go_wp2_with fail;refine wp_region_any (by kernel_rfl) ?_;change wpAny _ _ _ _ _ _ _ (World.drew _);refine aW 0 (U 24) (ak (U ⟨b,0,ab⟩) Z.length cap) ?_;simp only[ar,LT];refine aW 1 (U 25) (ak (U ⟨b,0,ab⟩) Z.length cap) ?_;simp only[ar,LT];refine aW 3 (U 27) (ad s) ?_;simp only[ar,LT];refine aW 4 (U 28) (I R k) ?_;simp only[ar,LT];refine aW 5 (U 29) (I .u8 (aqh s k)) ?_;simp only[ar,LT];refine aR 2 fun K A=>?_;refine wp_load_row 346 (.tmp 7) J g J 346 (LA 25 (q8 Z s k)) (0,0) _ yS.drew.2.2.2.2 underlying346 J (by rw[il];exact xJ) ?_;refine A _ _ ?_;clear A K;simp only[ar,LT];refine aR 6 fun K A=>?_;refine lf 263 #[(ak (U ⟨b,0,ab⟩) Z.length cap),aw (LA 25 (q8 Z s k)),I .u8 (aqh s k)] (by kernel_rfl) (ail Z b cap (aqh s k) (q8 Z s k) _ qe (aqj s k) yS.drew.2.1) ?_;rintro e W2⟨rfl,ex⟩;refine⟨_,J,A _ _ ?_⟩;clear A K;simp only[ar,LT];refine aR 7 fun K A=>?_;refine lf 262 #[(ak (U ⟨b,0,ab⟩) Z.length cap),aw (LA 25 (jD Z (q8 Z s k) (aqh s k) Z.length))] (by kernel_rfl) (Xt Z b cap _ _ qe (yS.drew.later ex).2.1) ?_;rintro e agC⟨rfl,Ga⟩;refine⟨_,J,A _ _ ?_⟩;clear A K;simp only[ar,LT];refine aR 8 fun K A=>?_;refine wp_store_row 346 (.tmp 7) (.tmp 31) J g (LA 25 (q8 Z s (k+1))) J J 346 (LA 25 (q8 Z s k)) ((yS.drew.later ex).later Ga).2.2.2.2 (by rw[il];exact xJ) (by rw[il,il]) (P9 _ _) ?_;refine A _ _ ?_;clear A K;simp only[ar];refine wpAny_done (by kernel_rfl) ?_ _;have Km:=MW.set (jX:=q8 Z s (k+1)) ((yS.drew.later ex).later Ga);have GT:=aa Km;clear Km yS ex Ga;go_wp2;go_roundw;case rel=>exact⟨k+1,by omega,by go_num,GT.out⟩
     case measure=>simp[intOf];omega
    .have e:k=s.size:=by omega
     subst e;have H:=aT wr g Z.length _ _ _ yS.2.2.2.2;rw[lX 25 _ _ (by omega)]at H;have HM:=aa yS.1;clear yS;go_wp2;go_ret;exact⟨J,HM.out⟩
theorem ajH(p:ByteArray)(hz:p.size<=1000)(w:ac):ap ae 133 #[ad p] w fun e w'=>e=aq (match aqp p with| .inl n=> .iface 43 (I R n)| .inr _=> .nilIface)/\aD w.heap.size w w':=by
 cases hP:aqp p with
  |inl n=>have HP:=aa hP;clear hP;go_enter func133,ntmps133;go_wp2_with(go_at_call 175;refine(Nn p hz _).mono ?_;rw[HP.out];rintro e W⟨hW,rfl⟩);go_ret;exact⟨J,hW⟩
  |inr Z=>have HP:=aa hP;clear hP;go_enter func133,ntmps133;go_wp2_with(go_at_call 175;refine(Nn p hz _).mono ?_;rw[HP.out];rintro e W⟨hW,E,rfl,cE⟩);go_ret;exact⟨J,hW⟩
end Go.Proofs.YtefdakbahplnbaaGreatDoor.Gl
