/- The console's small functions: numbers, errors, verdicts. -/
import Derived.Test.YtefdakbahplnbaaGreatDoorK21
import Derived.Test.YtefdakbahplnbaaGreatDoorK20
open Go.Proofs.Tryz
open Go renaming Calls->ap,Value->ag,World->ac,bodyPost_ret->ba,cell_of_row->aT,frozen_of_row->cy,heap_alloc_new->a7,setRow_heap->aV,wpAny_done->dH,wpList_store_row->bK,wp_region_any->mj
open Go.Act renaming put->ar
open Go.Ending renaming returned->aq
open Go.IntKind renaming i64->R,u64->ah
open Go.Lib renaming decDigits->aQ,parseUintB->tM,parseUintM->FH
open Go.Proofs.Tryz renaming prog->ae
open Go.Value renaming agg->aw,bool->aH,iface->b8,int->I,oneCell'->fG,pointer->av,slice->ak,string->ad,tuple->az
open Int renaming toNat_natCast->d_
open Nat renaming le_refl->aA
open Option renaming none->ab,some->U
namespace Go.Proofs.YtefdakbahplnbaaGreatDoor
open Go.RowKit Go.Sort
theorem E6(n:Nat)(u:n<18446744073709551616)(w:ac):ap ae 63 #[I ah n] w fun e w'=>e=aq (I R (bD n:Nat))/\w'=w:=by go_enter func63,ntmps63;go_wp2;go_ret;exact⟨ia (by unfold bD;omega),J⟩
theorem afh(n:Nat)(u:n<18446744073709551616)(w:ac):ap ae 101 #[I ah n] w fun e w'=>e=aq (I .u32 (min n 4294967295:Nat))/\w'=w:=by go_enter func101,ntmps101;go_wp2;go_ret;exact⟨ia (by omega),J⟩
theorem NZ(ay:Nat)(uF:ay<18446744073709551616)(w:ac)(ht:rY w):ap ae 135 #[I ah ay] w fun e w'=>e=aq (ad (bs (aQ ay)))/\Below w.heap.size w w':=by have ge:=ZM ay uF w ht;obtain⟨d,hd⟩:∃d:ByteArray,d=⟨(aQ ay).toArray⟩:=⟨_,J⟩;rw[<-hd]at ge;rw[show bs (aQ ay)=d from hd.symm];clear hd;go_enter func135,ntmps135;go_wp2_with(go_at_call 177;refine ge.mono ?_;rintro e w'⟨rfl,hb⟩);go_ret;exact⟨J,hb⟩
theorem Vt{l:W8}(h:cz l=true):tM 64 l= .ok (bW l):=by have hl:=wO l;rw[AY h,(vT _ hl).2];unfold tM;rw[if_neg (R_ _),P0 _ 0 (yB _) (by rw[BO];exact hl),BO]
theorem ab3:∀(l:W8)(dM ay:Nat),dM<18446744073709551616->FH (2^64-1) dM l= .ok ay->ay<18446744073709551616
 |[],dM,ay,h,e=>by cases e;exact h
 |c::r,dM,ay,h,e=>by
  unfold FH at e;repeat' split at e
  all_goals first|cases e|(refine ab3 r _ ay ?_ e;omega)
theorem anB(l:W8)(F:l.length<=9000)(w:ac)(hE:EV w):ap ae 125 #[ad (bs l),I R 10,I R 64] w fun e w'=>(∃(ay:Nat)(er:ag),e=aq (az #[I ah ay,er])/\(er= .nilIface/\ay<18446744073709551616/\(cz l=true->ay=bW l)\/(∃t p,er=b8 t p)/\cz l=false))/\Below w.heap.size w w':=by
 have cP:(bs l).size<=9000:=by rw[ct];exact F
 have kX:∀{x},tM 64 l=x->(∀ay,x≠ .ok ay)->cz l=false:=fun{x}h hx=>by
  cases M:cz l with
   |false=>rfl
   |true=>exact absurd (h.symm.trans (Vt M)) (hx _)
 cases h:tM 64 l with
  |ok ay=>
   refine(Tryz.strconv_ParseUint_10_at64_ok (bs l) (by omega) ay (by rw[fy];exact h) w).mono ?_;rintro e w'⟨rfl,hw⟩;refine⟨⟨ay,_,J, .inl ⟨J,?_,fun M=>?_⟩⟩,?_⟩
   .unfold tM at h;split at h;.cases h
    .exact ab3 l 0 ay (by omega) h
   .have:=h.symm.trans (Vt M);cases this;rfl
   rcases hw with rfl|rfl;.exact Below.refl _ _
   .exact Go.Joins.below_bytesWorld _ _ _ _ (aA _)
  |«syntax»=>obtain⟨ev,q,h2⟩:=hE.Lg;refine(Tryz.strconv_ParseUint_10_at64_syntax (bs l) (by omega) (by rw[fy];exact h) ev w q h2).mono ?_;rintro e w'⟨bu,rfl,_,_,hb⟩;exact⟨⟨0,_,J, .inr ⟨⟨_,_,J⟩,kX h (fun _ e=>by cases e)⟩⟩,hb⟩
  |range=>obtain⟨ev,q,h2⟩:=hE.GB;refine(Tryz.strconv_ParseUint_10_at64_range (bs l) (by omega) (by rw[fy];exact h) ev w q h2).mono ?_;rintro e w'⟨bu,rfl,_,_,hb⟩;exact⟨⟨18446744073709551615,_,J, .inr ⟨⟨_,_,J⟩,kX h (fun _ e=>by cases e)⟩⟩,hb⟩
theorem ajw(l:W8)(F:l.length<=9000)(w:ac)(hE:EV w):ap ae 94 #[ad (bs l)] w fun e w'=>(∃ay:Nat,e=aq (az #[I ah ay,aH (cz l)])/\(cz l=true->ay=bW l))/\Below w.heap.size w w':=by
 have HP:=anB l F w hE;have HT:=fun ay hu X hX=>NZ ay hu X hX;have HD:=aa (fun(ay:Nat)(hu:ay<18446744073709551616)(M:cz l=true->ay=bW l)=>show((bs (aQ ay)).toList==(bs l).toList)=cz l from by
  rw[lh,lh];cases z:cz l with
   |true=>rw[M z,<-AY z];simp
   |false=>rw[beq_eq_false_iff_ne];intro e;rw[<-e,(vT ay hu).1]at z;cases z);obtain⟨B,N⟩:=af (bs l);rw[<-N]at HP HD⊢;have HE:=aa hE;obtain⟨s9,VI⟩:=af (cz l);rw[<-VI]at HP HD⊢;clear hE F N VI;go_enter func94,ntmps94;go_wp2_with fail;refine HP.mono ?_;rintro e X⟨⟨ay,er,rfl,hu⟩,hX⟩;have HX:=aa hX;clear hX HP;rcases hu with⟨rfl,am,M⟩|⟨⟨t,p,rfl⟩,M⟩;.have HF:=aa M;replace HT:=HT ay am X (HE.out.au HX.out).oR;have hd:=HD.out ay am M;obtain⟨d,hd'⟩:=af (bs (aQ ay));rw[<-hd']at hd HT;clear hd' am M HD;go_wp2_with(go_at_call 135;refine HT.mono ?_;rintro e Y⟨rfl,hY⟩);go_ret2;exact⟨⟨ay,by first|rfl|(rw[hd]),HF.out⟩,ax HX.out hY⟩
 .subst M;go_wp2;go_ret2;exact⟨⟨ay,J,fun h=>by cases h⟩,HX.out⟩
theorem CL(n:Nat)(u:n<=9223372036854775807)(w:ac)(hE:EV w):ap ae 60 #[I R n] w fun e w'=>e=aq (ad (bs (aQ n)))/\Below w.heap.size w w':=zz n u w hE.oR
theorem yv{n:Nat}(h:n<18446744073709551616):(bs (aQ n)).size<=20:=by rw[ct];exact nDigits_le20 n h
theorem X7(f:Nat)(M:f<=100)(w:ac)(hE:EV w):ap ae 39 #[b8 43 (I R f)] w fun e w'=>e=aq (ad (bs (nH f)))/\Below w.heap.size w w':=by have HI:=CL f (by omega) w hE;have HQ:=aa (show⟨#[101,114,114,111,114,32]⟩++bs (aQ f)=bs (nH f)from b7 [101,114,114,111,114,32] _);have F:=yv (show f<18446744073709551616 by omega);obtain⟨B,N⟩:=af (bs (aQ f));rw[<-N]at HI HQ F;have ha:=abz f;clear N hE M;go_enter func39,ntmps39;go_wp2_with(go_at_call 60;refine HI.mono ?_;rintro e w'⟨rfl,hb⟩);go_ret;exact⟨by rw[<-HQ.out];rfl,hb⟩
theorem Nh(f:Nat)(w:ac):ap ae 61 #[cj f] w fun e w'=>e=aq (az #[ad (bs (if f=0 then[111,107]else[])),cj f])/\w'=w:=by
 by_cases h:f=0;.subst h;rw[kD,if_pos J];go_enter func61,ntmps61;go_wp2;go_ret2;exact⟨J,J⟩
 .rw[iL h,if_neg h];go_enter func61,ntmps61;go_wp2;go_ret2;exact⟨J,J⟩
def Vz(x:bG×Nat):Prop:=(x.1.aF=4\/dl x.1=0)/\x.2<=1000
theorem ajp(x:bG×Nat)(hx:Vz x)(w:ac)(hE:EV w):ap ae 103 #[sZ x] w fun e w'=>e=aq (ad (bs (pq x)))/\Below w.heap.size w w':=by
 obtain⟨a,i⟩:=x;obtain⟨ha,hi⟩:=hx;simp only at ha hi;have HI:=fun(n:Nat)(h:n<=1000)X(hX:EV X)=>CL n (by omega) X hX;have HE:=aa hE;clear hE;unfold sZ fV;rcases ha with ha|ha;.have HQ:=aa (show⟨#[116,114,97,99,101,32]⟩++bs (aQ i)=bs (pq (a,i))by unfold pq;rw[if_pos ha];exact b7 [116,114,97,99,101,32] _);have F:=yv (show i<18446744073709551616 by omega);replace HI:=HI i hi;obtain⟨B,N⟩:=af (bs (aQ i));rw[<-N]at HI HQ F;obtain⟨k,er⟩:=a;simp only at ha⊢;subst ha;clear N hi;go_enter func103,ntmps103;go_wp2_with(go_at_call 60;refine(HI _ (HE.out.au (ai _ _))).mono ?_;rintro e w'⟨rfl,hb⟩);go_ret;exact⟨by rw[<-HQ.out];rfl,ax (ai _ _) hb⟩
 .rcases vu ha with rfl|rfl|⟨n,q,h2,rfl⟩;.clear HI;simp only;go_enter func103,ntmps103;go_wp2;go_ret;exact⟨J,ai _ _⟩
  .clear HI;simp only;go_enter func103,ntmps103;go_wp2;go_ret;exact⟨J,ai _ _⟩
  .have HQ:=aa (show⟨#[100,101,110,121,32]⟩++bs (aQ n)=bs (pq (⟨2,n⟩,i))from(b7 [100,101,110,121,32] _).trans (by simp[pq,e3,cr,o_]));have F:=yv (show n<18446744073709551616 by omega);replace HI:=HI n (by omega);obtain⟨B,N⟩:=af (bs (aQ n));rw[<-N]at HI HQ F;clear N hi ha;simp only;go_enter func103,ntmps103;go_wp2_with(go_at_call 60;refine(HI _ (HE.out.au (ai _ _))).mono ?_;rintro e w'⟨rfl,hb⟩);go_ret;exact⟨by rw[<-HQ.out];rfl,ax (ai _ _) hb⟩
end Go.Proofs.YtefdakbahplnbaaGreatDoor
namespace Go.Proofs.YtefdakbahplnbaaGreatDoor
open Go.RowKit Mm
theorem Ye{g O:Nat}{P:PV}{s:WS}{y:ag}{W:ac}(n:Int)(M:gW n s≠0)(h:WX g O P s y W):ap ae 104 #[av (U ⟨g,0,ab⟩),I R n] W fun e w'=>e=aq (az #[aH false,cj (gW n s)])/\w'=W:=by have HA:=vS n h;rw[iL M]at HA;rw[iL M];obtain⟨f,Cv⟩:=af (gW n s);rw[<-Cv]at HA;rw[<-Cv];clear h Cv M;go_enter func104,ntmps104;go_wp2_with fail;refine HA.mono ?_;rintro e w'⟨rfl,rfl⟩;go_wp2;go_ret2;exact⟨J,J⟩
theorem af8{g O:Nat}{P:PV}{s:WS}{y:ag}{W:ac}(n:Nat)(u:n<3)(N:(s.T n).phase=0)(h:WX g O P s y W):ap ae 104 #[av (U ⟨g,0,ab⟩),I R n] W fun e w'=>e=aq (az #[aH false, .nilIface])/\w'=W:=by
 have HA:=vS n h;have j1:(0:Int)<=n:=by omega
 have j2:(n:Int)<3:=by omega
 rw[show gW n s=0 by unfold gW;rw[if_pos ⟨j1,j2⟩,d_,if_neg (by omega)],kD]at HA;have cp:=h.phase n u;rw[N]at cp;clear h N;go_enter func104,ntmps104;go_wp2_with fail;refine HA.mono ?_;rintro e w'⟨rfl,rfl⟩;go_wp2;go_ret2;exact⟨J,J⟩
theorem aej{g O:Nat}{P:PV}{s:WS}{y:ag}{W:ac}{bd:ac->Prop}(n:Nat)(u:n<3)(N:(s.T n).phase=1)(h:WX g O P s y W)(G:ap ae 143 #[av (U ⟨g,0,ab⟩),I R n] W fun e w'=>e=aq (az #[])/\bd w'):ap ae 104 #[av (U ⟨g,0,ab⟩),I R n] W fun e w'=>e=aq (az #[aH true, .nilIface])/\bd w':=by
 have HA:=vS n h;have j1:(0:Int)<=n:=by omega
 have j2:(n:Int)<3:=by omega
 rw[show gW n s=0 by unfold gW;rw[if_pos ⟨j1,j2⟩,d_,if_neg (by omega)],kD]at HA;have cp:=h.phase n u;rw[N]at cp;clear h N;go_enter func104,ntmps104;go_wp2_with fail;refine HA.mono ?_;rintro e w'⟨rfl,rfl⟩;go_wp2_with fail;refine G.mono ?_;rintro e w'⟨rfl,hR⟩;go_wp2;go_ret2;exact⟨J,hR⟩
theorem alN{g O:Nat}{P:PV}{s:WS}{y:ag}{W:ac}{bd:ac->Prop}(n:Nat)(u:n<3)(N:(s.T n).phase=2)(h:WX g O P s y W)(G:ap ae 144 #[av (U ⟨g,0,ab⟩),I R n] W fun e w'=>e=aq (az #[])/\bd w'):ap ae 104 #[av (U ⟨g,0,ab⟩),I R n] W fun e w'=>e=aq (az #[aH true, .nilIface])/\bd w':=by
 have HA:=vS n h;have j1:(0:Int)<=n:=by omega
 have j2:(n:Int)<3:=by omega
 rw[show gW n s=0 by unfold gW;rw[if_pos ⟨j1,j2⟩,d_,if_neg (by omega)],kD]at HA;have cp:=h.phase n u;rw[N]at cp;clear h N;go_enter func104,ntmps104;go_wp2_with fail;refine HA.mono ?_;rintro e w'⟨rfl,rfl⟩;go_wp2_with fail;refine G.mono ?_;rintro e w'⟨rfl,hR⟩;go_wp2;go_ret2;exact⟨J,hR⟩
theorem aj5{g O:Nat}{P:PV}{s:WS}{y:ag}{W:ac}{bd:ac->Prop}(n:Nat)(u:n<3)(N:(s.T n).phase=3)(h:WX g O P s y W)(G:ap ae 145 #[av (U ⟨g,0,ab⟩),I R n] W fun e w'=>e=aq (az #[])/\bd w'):ap ae 104 #[av (U ⟨g,0,ab⟩),I R n] W fun e w'=>e=aq (az #[aH true, .nilIface])/\bd w':=by
 have HA:=vS n h;have j1:(0:Int)<=n:=by omega
 have j2:(n:Int)<3:=by omega
 rw[show gW n s=0 by unfold gW;rw[if_pos ⟨j1,j2⟩,d_,if_neg (by omega)],kD]at HA;have cp:=h.phase n u;rw[N]at cp;clear h N;go_enter func104,ntmps104;go_wp2_with fail;refine HA.mono ?_;rintro e w'⟨rfl,rfl⟩;go_wp2_with fail;refine G.mono ?_;rintro e w'⟨rfl,hR⟩;go_wp2;go_ret2;exact⟨J,hR⟩
theorem alU{g O:Nat}{P:PV}{s:WS}{y:ag}{W:ac}{bd:ac->Prop}(n:Nat)(u:n<3)(N:(s.T n).phase=4)(h:WX g O P s y W)(G:ap ae 146 #[av (U ⟨g,0,ab⟩),I R n] W fun e w'=>e=aq (az #[])/\bd w'):ap ae 104 #[av (U ⟨g,0,ab⟩),I R n] W fun e w'=>e=aq (az #[aH true, .nilIface])/\bd w':=by
 have HA:=vS n h;have j1:(0:Int)<=n:=by omega
 have j2:(n:Int)<3:=by omega
 rw[show gW n s=0 by unfold gW;rw[if_pos ⟨j1,j2⟩,d_,if_neg (by omega)],kD]at HA;have cp:=h.phase n u;rw[N]at cp;clear h N;go_enter func104,ntmps104;go_wp2_with fail;refine HA.mono ?_;rintro e w'⟨rfl,rfl⟩;go_wp2_with fail;refine G.mono ?_;rintro e w'⟨rfl,hR⟩;go_wp2;go_ret2;exact⟨J,hR⟩
theorem am4{g O:Nat}{P:PV}{s:WS}{y:ag}{W:ac}{bd:ac->Prop}(n:Nat)(u:n<3)(N:(s.T n).phase=5)(h:WX g O P s y W)(G:ap ae 147 #[av (U ⟨g,0,ab⟩),I R n] W fun e w'=>e=aq (az #[])/\bd w'):ap ae 104 #[av (U ⟨g,0,ab⟩),I R n] W fun e w'=>e=aq (az #[aH true, .nilIface])/\bd w':=by
 have HA:=vS n h;have j1:(0:Int)<=n:=by omega
 have j2:(n:Int)<3:=by omega
 rw[show gW n s=0 by unfold gW;rw[if_pos ⟨j1,j2⟩,d_,if_neg (by omega)],kD]at HA;have cp:=h.phase n u;rw[N]at cp;clear h N;go_enter func104,ntmps104;go_wp2_with fail;refine HA.mono ?_;rintro e w'⟨rfl,rfl⟩;go_wp2_with fail;refine G.mono ?_;rintro e w'⟨rfl,hR⟩;go_wp2;go_ret2;exact⟨J,hR⟩
def ti(m:MS)(k a:Nat):VL×Nat:=if k=2 then(⟨⟨(e5 (Mm.aqq (ey m) a 41 0 []).2).toArray⟩,0,0⟩,(Mm.aqq (ey m) a 41 0 []).1)else match h1 m a 16 with|ab=>(dE,5)|U l=>p5 3 (e5 l)
set_option maxHeartbeats 1000000 in theorem ams{g O:Nat}{P:PV}{s:WS}{y:ag}{W:ac}(k a:Nat)(z:k=2\/k=3)(ha:a<18446744073709551616)(am:∀x,s.mem.ei x<256)(h:WX g O P s y W):ap ae 194 #[av (U ⟨g,0,ab⟩),I R k,I ah a] W fun e w'=>e=aq (az #[aw (eo (ti s.mem k a).1),cj (ti s.mem k a).2])/\Below W.heap.size W w':=by
 obtain⟨V,hV,g7,dp⟩:∃V,V=W.alloc (.cells #[ad ⟨#[]⟩,I .u32 0,I R 0] 71)/\V.heap[W.heap.size]?=U (.cells #[ad ⟨#[]⟩,I .u32 0,I R 0] 71 (0,0))/\Below W.heap.size W V:=⟨_,J,a7 _ _,ai _ _⟩;have CT:=(Array.getElem?_eq_some_iff.1 g7).1;have hX:=h.au dp;have cp:=hX.ptr;have HT:=Mm.aqs hX.mem a ha am;have HG:=ajI hX.mem a 16 ha (by omega) am;unfold ti;rcases z with rfl|rfl;.rw[if_pos J];obtain⟨⟨f,l⟩,L⟩:=af (Mm.aqq (ey s.mem) a 41 0 []);rw[<-L]at HT;rw[<-L];unfold Mm.aqr at HT;simp only at HT⊢;obtain⟨B,N⟩:∃B:ByteArray,B=⟨(e5 l).toArray⟩:=⟨_,J⟩;rw[<-N]at HT;rw[<-N];obtain⟨er,gc⟩:∃er:ag,er=cj f:=⟨_,J⟩;rw[show(if f=0 then Value.nilIface else b8 43 (I R f))=er from gc.symm]at HT;rw[<-gc];clear N L HG hX h gc;rw[hV]at cp;go_enter func194,ntmps194;go_wp2_with fail;rw[<-hV];refine HT.mono ?_;rintro e X⟨rfl,hX⟩;have m9:=(hX.block _ CT).trans g7;have S:=aa (ax dp hX);clear hV HT hX cp;go_wp2_with(refine bK J 71 _ _ J W.heap.size (eo ⟨B,0,0⟩) J J 71 _ m9 wU J (CA _) ?_);exact ba (v:=az #[aw (eo ⟨B,0,0⟩),er]) (BV J _ _ W.heap.size (eo ⟨B,0,0⟩) _ J J J (aV _ _ _ _ _ _ m9)) J ⟨J,below_setRow S.out (aA _) _⟩
 .rw[if_neg (by omega)];have l6:∀l,h1 s.mem a 16=U l->(e5 l).length<=9000:=by intro l hl;have:=abL hl;unfold e5;rw[List.length_map];omega
  cases L:h1 s.mem a 16 with
   |none=>rw[L]at HG;unfold QT at HG;simp only at HG⊢;clear L HT hX h l6;rw[hV]at cp;go_enter func194,ntmps194;go_wp2_with fail;rw[<-hV];refine HG.mono ?_;rintro e X⟨rfl,hX⟩;have m9:=(hX.block _ CT).trans g7;have S:=aa (ax dp hX);clear hV HG hX cp;go_wp2_with(refine bK J 71 _ _ J W.heap.size (eo dE) J J 71 _ m9 wU J (CA _) ?_);exact ba (v:=az #[aw (eo dE),b8 43 (I R 5)]) (BV J _ _ W.heap.size (eo dE) _ J J J (aV _ _ _ _ _ _ m9)) J ⟨J,below_setRow S.out (aA _) _⟩
   |some l=>
    rw[L]at HG;unfold QT at HG;simp only at HG⊢;have HW:=fun X=>UQ 3 (.inr J) (e5 l) (l6 l L) X;rw[show(⟨(e5 l).toArray⟩:ByteArray)=bs (e5 l)from J]at HG;obtain⟨B,N⟩:=af (bs (e5 l));obtain⟨⟨x,f⟩,hx⟩:=af (p5 3 (e5 l));rw[<-hx]at HW;rw[<-hx];simp only[<-N]at HG HW⊢;obtain⟨er,gc⟩:∃er:ag,er=cj f:=⟨_,J⟩;simp only[<-gc]at HW⊢;obtain⟨G8,MJ⟩:=af (eo x);have pY:G8.size=3:=by rw[MJ];rfl
    have fT:G8.all (·.oneCell')=true:=by rw[MJ];exact CA _
    simp only[<-MJ]at HW⊢;clear L HT hX h l6 N hx gc MJ;rw[hV]at cp;go_enter func194,ntmps194;go_wp2_with fail;rw[<-hV];refine HG.mono ?_;rintro e X⟨rfl,hX⟩;have m9:=(hX.block _ CT).trans g7;have xZ:=Nat.lt_of_lt_of_le CT hX.size;have S:=aa (ax dp hX);clear hV HG hX cp;go_wp2_with fail;refine(HW X).mono ?_;rintro e Y⟨rfl,hY⟩;have hYh:=(hY.block _ xZ).trans m9;have G:=aa (ax S.out hY);clear HW hY;go_wp2_with(refine bK J 71 _ _ J W.heap.size G8 J J 71 _ hYh (by rw[pY];exact wU) (by rw[pY];rfl) fT ?_);exact ba (v:=az #[aw G8,er]) (BV J _ _ W.heap.size G8 _ pY J J (aV _ _ _ _ _ _ hYh)) J ⟨J,below_setRow G.out (aA _) _⟩
theorem Rl(p:Nat->Option Nat)(a:Nat):∀(f i:Nat)(l:List Nat),(Mm.aqq p a f i l).1=0\/(Mm.aqq p a f i l).1=5\/(Mm.aqq p a f i l).1=6
 |0,_,_=> .inr (.inr J)
 |f+1,i,l=>by
  unfold Mm.aqq;cases hp:p (ch a i)with
   |none=>exact .inr (.inl J)
   |some x=>
    by_cases hx:x=0;.rw[hx];exact .inl J
    .simp only[if_neg hx];exact Rl p a f (i+1) (l++[x])
theorem am8(m:MS)(k a:Nat)(z:k=2\/k=3):jU m k a=if(ti m k a).2=0 then .inl (ti m k a).1 else .inr (qt (ti m k a).2):=by
 unfold jU ti;rcases z with rfl|rfl;.rw[if_pos J,if_pos J];have H:=Rl (ey m) a 41 0 [];obtain⟨⟨f,l⟩,L⟩:=af (Mm.aqq (ey m) a 41 0 []);rw[<-L]at H⊢;simp only at H⊢;rcases H with rfl|rfl|rfl<;>rfl
 .simp only[if_neg (show¬(3:Nat)=2 by decide)];cases hg:h1 m a 16 with
   |none=>rfl
   |some l=>
    unfold p5 mG;simp only[↓reduceIte];rw[show(⟨(e5 l).toArray⟩:ByteArray)=bs (e5 l)from J];cases L:gS (bs (e5 l))with
     |none=>rfl
     |some x=>rfl
theorem aen(P:Program)(w:ac)(lJ sT ty elem:TypeId)(ju:Addr)(k pJ tt sz:Nat)(hu:P.underlying lJ=U (.slice elem))(F:(P.info? elem).map (·.size)=U sz):(Builtin.copy_ #[lJ,sT] ty #[ak (U ju) k pJ,ak ab 0 tt]).run P w= .ok (goInt 0) w:=by
 cases N:P.info? elem with
  |none=>simp[N]at F
  |some i=>simp[Builtin.copy_,run_underlying hu,Builtin.lenOf,Builtin.firstCells,sizeOf,typeInfo,N,storeCells]
theorem Qm{P:Program}{w:ac}{o:Oper}{a:Act}{K:Act->ac->Prop}{aE:Exit->Act->ac->Prop}(d s:Operand)(lJ sT:TypeId)(ho:o.op= .call {callee:= .builtin .copy,args:=#[d,s],argTypes:=#[lJ,sT]})(elem:TypeId)(sz:Nat)(hu:P.underlying lJ=U (.slice elem))(cP:(P.info? elem).map (·.size)=U sz)(ju:Addr)(k pJ tt:Nat)(hd:a.eval d=ak (U ju) k pJ)(F:a.eval s=ak ab 0 tt)(h:K (a.put o.dst (goInt 0)) w):o.wp P a w K aE:=by have qc:=aen P w lJ sT o.type elem ju k pJ tt sz hu cP;unfold Oper.wp;simp[execOp,ho,resolve,invoke,builtin,hd,F,qc,Result.andThen];exact h
set_option maxHeartbeats 8000000 in set_option maxRecDepth 100000 in theorem akM(p:bj)(M:p.bw.length<=100)(Wu:∀r∈p.bw,r.bq.length<=100)(oa:Option Addr)(cap:Nat)(w:ac)(h:fc oa cap p w):ap ae 36 #[ep p oa cap] w fun e w'=>(∃ob,e=aq (ep p ob p.bw.length)/\fc ob p.bw.length p w'/\M7 w.heap.size ob p.bw.length p w')/\Below w.heap.size w w':=by
 obtain⟨n,u⟩:=af p.bw.length;have G:=aa (zg h n u);have Fu:=aa h.ok;clear h;have WW:n<=100:=by omega
 have H6:=aa Wu;clear Wu M;obtain⟨rs,⟨aN,aP⟩⟩:=p;have w_:=aa (show∀ob dZ,ep ⟨rs,⟨aN,aP⟩⟩ ob dZ=aw #[ak ob n dZ,I R aN,I R aP]from fun ob dZ=>by unfold ep;simp only at u⊢;rw[<-u]);rw[w_.out];simp only at G u H6;have HN:=aa u;have In:Hid (∀i,i<n->∃c,rs[i]?=U c):=aa (fun i hi=>⟨_,List.getElem?_eq_getElem (by omega)⟩);have yh:=aa (show∀ob,(∃ob',aq (aw #[ak ob n n,I R aN,I R aP])=aq (ep ⟨rs,⟨aN,aP⟩⟩ ob' (⟨rs,⟨aN,aP⟩⟩:bj).bw.length)/\ob'=ob)from fun ob=>⟨ob,by rw[w_.out];simp only;rw[<-HN.out],J⟩);clear u;have Ku:=fun f=>sP.start w oa n cap ⟨aN,aP⟩ rs f;unfold iW at Ku;simp only at Ku;go_enter func36,ntmps36;go_wp2_with(refine ahg J _ _ J n J J (by omega) ?_;intro f0;have TD:=aa (Ku f0);clear Ku);obtain⟨V,hV⟩:=af (((w.alloc (.cells #[ak oa n cap,I R aN,I R aP] 32)).alloc (.cells #[ak ab 0 0,I R 0,I R 0] 32)).alloc (.cells (VA (n*4) f0) 54));rw[<-hV]at TD;rw[<-hV];clear hV;go_loopw[11](fun aL w'=>∃i:Nat,i<=n/\aL=I R i/\Hid (sP w oa n cap ⟨aN,aP⟩ rs i w'))(fun aL _=>n-(intOf aL).toNat);case atStart=>exact⟨0,by omega,J,TD⟩
 case round=>
  obtain⟨i,hi,rfl,HX⟩:=hrel;clear TD;have apq:=HX.out.lt;by_cases am:i<n
  .obtain⟨c,cH⟩:=In.out i am;obtain⟨b,off,rfl,ds,HA⟩:=G.out (by omega);obtain⟨dj,cc,cZ⟩:=HA.out i c cH;have hR:=cZ.au ds HX.out.below;obtain⟨m,hm⟩:=af c.bq.length;have hm6:m<=100:=by rw[hm];exact H6.out c (List.mem_of_getElem? cH)
   have HM:=aa hm;have Ns:Hid ((gO c.bq).length=m*9):=aa (by rw[KP,hm]);have kQ:=aa cZ.bq;have jn:=fun(aI:Array ag)(X4:ac)=>HX.out.next (X4:=X4) am cH (ak dj m cc) aI;have b_:wr.cell? ⟨w.heap.size,0,ab⟩=U (ak (U ⟨b,off,ab⟩) n cap):=aT _ _ 0 _ _ _ HX.out.box;obtain⟨p0,p1,p2,p3,_,_,_,_⟩:=hR;rw[<-hm]at p1;simp only[<-hm]at jn;obtain⟨f,M,_⟩:=HX.out.row;have LS:=aa M;clear cH cZ hm M;obtain⟨nr,cs,⟨rk,re⟩⟩:=c;simp only at p0 p1 p2 p3 kQ Ns jn;have i1:(0:Int)<=i:=by omega
   have i2:(i:Int)<n:=by omega
   obtain⟨U1,s8⟩:=af (wr.setCells (w.heap.size+2) (i*4) [I R nr,ak dj m cc,I R rk,I R re]);have iJ:Hid (∀k,k≠w.heap.size+2->U1.heap[k]?=wr.heap[k]?):=aa (fun k z=>by rw[s8];exact E5 _ _ z _ _ _);have ab4:U1.heap.size=wr.heap.size:=by rw[s8];exact(Rt _ _ _ _).1
   have Lc:Hid (U1.heap[w.heap.size+2]?=U (.cells (VA (n*4) (ga f (i*4) [I R nr,ak dj m cc,I R rk,I R re])) 54 (0,0))):=aa (by rw[s8,PG (n*4) _ _ _ _ f wr LS.out];exact aV _ _ _ _ _ _ LS.out);have b1:U1.cell? ⟨w.heap.size,0,ab⟩=U (ak (U ⟨b,off,ab⟩) n cap):=by rw[dt (iJ.out _ (by omega))];exact b_
   have q1:U1.cell? ⟨b,off+i*4+1,ab⟩=U (ak dj m cc):=by rw[dt (iJ.out _ (by omega))];exact p1
   rw[<-s8]at jn;have adV:w.heap.size+2<U1.heap.size:=by omega
   have pI:=aa ab4;clear ab4;go_wp2_with(first|(refine wpList_store_mid (P:=ae) J 54 _ _ J (w.heap.size+2) (i*4) #[I R nr,ak dj m cc,I R rk,I R re] (by go_simp) J (by intro j hj;exact⟨by rw[aT _ _ _ _ _ _ LS.out,km _ _ _ (by have h4:j<4:=hj;omega)];rfl,cy _ _ _ _ _ LS.out⟩) B6 (by simp[fG]) ?_;rw[<-s8];clear s8 b_ p0 p1 p2 p3)|(refine ah6 J _ _ J m J J (by omega) ?_;intro aI hz;have u1:(U1.alloc (.cells aI 129)).cell? ⟨w.heap.size+2,i*4+1,ab⟩=U (ak dj m cc):=(ao (ai U1 _) (by rw[aT _ _ _ _ _ _ Lc.out,km _ _ _ (by omega)];unfold ga;rw[if_pos (by simp only[List.length_cons,List.length_nil];omega),show i*4+1-i*4=1 by omega];rfl));have g1:(U1.alloc (.cells aI 129)).frozen? ⟨w.heap.size+2,i*4+1,ab⟩=false:=cy _ _ _ _ _ (((ai U1 _).block _ adV).trans Lc.out)));obtain⟨U3,vl⟩:=af ((U1.setCell ⟨w.heap.size+1+1,i*4+1,ab⟩ (ak (U ⟨U1.heap.size,0,ab⟩) m m)).alloc (.cells aI 129));have dB:=Fr.set (g:=w.heap.size+2) (O:=w.heap.size+2) (ak ab 0 0) U1 (i*4+1) (ak (U ⟨U1.heap.size,0,ab⟩) m m);have cP:(U1.setCell ⟨w.heap.size+2,i*4+1,ab⟩ (ak (U ⟨U1.heap.size,0,ab⟩) m m)).heap.size=U1.heap.size:=by simp[World.setCell]
   have be:Hid (∀k,k<U1.heap.size->k≠w.heap.size+2->U3.heap[k]?=U1.heap[k]?):=aa (fun k z bo=>by rw[vl];exact((ai _ _).block k (by rw[cP];exact z)).trans (Below.heap_setCell U1 ⟨w.heap.size+2,i*4+1,ab⟩ _ k bo));have Lu:U3.drew.heap[U1.heap.size]?=U (.cells aI 129 (0,0)):=by rw[vl];have:=a7 (U1.setCell ⟨w.heap.size+2,i*4+1,ab⟩ (ak (U ⟨U1.heap.size,0,ab⟩) m m)) (.cells aI 129);rw[cP]at this;exact this
   have d0:U3.drew.cell? ⟨w.heap.size+1+1,i*4+1,ab⟩=U (ak (U ⟨U1.heap.size,0,ab⟩) m m):=by rw[vl];refine ao (ai _ _).drew ?_;rw[setCell_eq_setRow _ _ _ _ _ _ _ Lc.out,qu,aT _ _ _ _ _ _ (aV _ _ _ _ _ _ Lc.out),km _ _ _ (by omega)];unfold e0;rw[if_pos J]
   have d1:U3.drew.cell? ⟨w.heap.size,0,ab⟩=U (ak (U ⟨b,off,ab⟩) n cap):=(dt (be.out _ (by omega) (by omega)) 0).trans b1;have d2:U3.drew.cell? ⟨b,off+i*4+1,ab⟩=U (ak dj m cc):=(dt (be.out _ (by omega) (by omega)) _).trans q1;have Jo:=jn aI;rw[<-pI.out]at Jo;rw[<-vl];replace Jo:∀X4,X4=U3.drew.setRow U1.heap.size (gO cs).toArray->sP w (U ⟨b,off,ab⟩) n cap ⟨aN,aP⟩ rs (i+1) X4:=fun X4 h=>Jo X4 (by rw[h,vl]);clear vl b1 q1 u1 g1 dB cP jn;cases dj with
    |none=>
     as_aux_lemma=>
      have og:m=0:=by
       rcases Nat.eq_zero_or_pos cs.length with h|h;.rw[HM.out];exact h
       .obtain⟨_,_,q,_⟩:=kQ.out.ez h;cases q
      subst og;have act:cs=[]:=List.eq_nil_of_length_eq_zero HM.out.symm;have HN:=aa (Jo U3.drew (by rw[act,show(gO []).toArray=aI from(Array.eq_empty_of_size_eq_zero (by omega)).symm];exact(setRow_self _ _ _ _ _ Lu).symm));refine mj (by kernel_rfl) ?_;change wpAny _ _ _ _ _ _ _ (World.drew _);refine aW 0 (U 34) (ak (U ⟨w.heap.size+1+1,0,ab⟩) n n) ?_;try simp only[ar,LT]
      refine aW 1 (U 35) (I R (i:Nat)) ?_;try simp only[ar,LT]
      refine aW 2 (U 36) (av (U ⟨w.heap.size+1+1,i*4,ab⟩)) ?_;try simp only[ar,LT]
      refine aW 3 (U 37) (av (U ⟨w.heap.size+1+1,i*4+1,ab⟩)) ?_;try simp only[ar,LT]
      refine aW 5 (U 39) (av (U ⟨w.heap.size,0,ab⟩)) ?_;try simp only[ar,LT]
      refine aW 7 (U 41) (I R (i:Nat)) ?_;try simp only[ar,LT]
      refine iV (i:=4) (j:=6) (by kernel_rfl) J J J J (fun K A=>?_) (fun K A=>?_)
      .go_simp;refine A _ _ ?_;clear A K;try simp only[ar,LT]
       refine aR 6 fun K A=>?_;go_simp;refine A _ _ ?_;clear A K;try simp only[ar,LT]
       refine aW 8 (U 42) (av (U ⟨b,off+i*4,ab⟩)) ?_;try simp only[ar,LT]
       refine aW 9 (U 43) (av (U ⟨b,off+i*4+1,ab⟩)) ?_;try simp only[ar,LT]
       refine aR 10 fun K A=>?_;go_simp;refine A _ _ ?_;clear A K;try simp only[ar,LT]
       refine aR 11 fun K A=>?_;refine Qm _ _ 52 52 J 129 9 underlying52 gP ⟨U1.heap.size,0,ab⟩ 0 0 cc J J ?_;refine A _ _ ?_;clear A K;try simp only[ar,LT]
       refine dH (by kernel_rfl) ?_ _;go_wp2;go_round;case rel=>exact⟨i+1,by omega,by go_num,HN⟩
       case measure=>simp[intOf];omega
      .go_simp;refine A _ _ ?_;clear A K;try simp only[ar,LT]
       refine aW 8 (U 42) (av (U ⟨b,off+i*4,ab⟩)) ?_;try simp only[ar,LT]
       refine aW 9 (U 43) (av (U ⟨b,off+i*4+1,ab⟩)) ?_;try simp only[ar,LT]
       refine iV (i:=4) (j:=10) (by kernel_rfl) J J J J (fun K A=>?_) (fun K A=>?_)
       .go_simp;refine A _ _ ?_;clear A K;try simp only[ar,LT]
        refine aR 10 fun K A=>?_;go_simp;refine A _ _ ?_;clear A K;try simp only[ar,LT]
        refine aR 11 fun K A=>?_;refine Qm _ _ 52 52 J 129 9 underlying52 gP ⟨U1.heap.size,0,ab⟩ 0 0 cc J J ?_;refine A _ _ ?_;clear A K;try simp only[ar,LT]
        refine dH (by kernel_rfl) ?_ _;go_wp2;go_round;case rel=>exact⟨i+1,by omega,by go_num,HN⟩
        case measure=>simp[intOf];omega
       .go_simp;refine A _ _ ?_;clear A K;try simp only[ar,LT]
        refine aR 4 fun K A=>?_;go_simp;refine A _ _ ?_;clear A K;try simp only[ar,LT]
        refine aR 11 fun K A=>?_;refine Qm _ _ 52 52 J 129 9 underlying52 gP ⟨U1.heap.size,0,ab⟩ 0 0 cc J J ?_;refine A _ _ ?_;clear A K;try simp only[ar,LT]
        refine dH (by kernel_rfl) ?_ _;go_wp2;go_round;case rel=>exact⟨i+1,by omega,by go_num,HN⟩
        case measure=>simp[intOf];omega
    |some ju=>
     as_aux_lemma=>
      have qW:∀j v,(gO cs)[j]?=U v->U3.drew.cell? (ju.add j)=U v:=fun j v hj=>by
       have hj9:j<cs.length*9:=by rw[<-KP cs];exact(List.getElem?_eq_some_iff.1 hj).1
       obtain⟨fL,xS,q,h2,_⟩:=kQ.out.ez (by omega);have H:=ahr kQ.out J j v hj;rw[Option.some.inj q,Vb]at H⊢;rw[<-H];exact(dt (be.out fL (by omega) (by omega)) _).trans ((dt (iJ.out fL (by omega)) _).trans (HX.out.below.cell (p:=⟨fL,xS+j,ab⟩) h2))
      have HN:=aa (Jo _ J);refine mj (by kernel_rfl) ?_;change wpAny _ _ _ _ _ _ _ (World.drew _);refine aW 0 (U 34) (ak (U ⟨w.heap.size+1+1,0,ab⟩) n n) ?_;try simp only[ar,LT]
      refine aW 1 (U 35) (I R (i:Nat)) ?_;try simp only[ar,LT]
      refine aW 2 (U 36) (av (U ⟨w.heap.size+1+1,i*4,ab⟩)) ?_;try simp only[ar,LT]
      refine aW 3 (U 37) (av (U ⟨w.heap.size+1+1,i*4+1,ab⟩)) ?_;try simp only[ar,LT]
      refine aW 5 (U 39) (av (U ⟨w.heap.size,0,ab⟩)) ?_;try simp only[ar,LT]
      refine aW 7 (U 41) (I R (i:Nat)) ?_;try simp only[ar,LT]
      refine iV (i:=4) (j:=6) (by kernel_rfl) J J J J (fun K A=>?_) (fun K A=>?_)
      .go_simp;refine A _ _ ?_;clear A K;try simp only[ar,LT]
       refine aR 6 fun K A=>?_;go_simp;refine A _ _ ?_;clear A K;try simp only[ar,LT]
       refine aW 8 (U 42) (av (U ⟨b,off+i*4,ab⟩)) ?_;try simp only[ar,LT]
       refine aW 9 (U 43) (av (U ⟨b,off+i*4+1,ab⟩)) ?_;try simp only[ar,LT]
       refine aR 10 fun K A=>?_;go_simp;refine A _ _ ?_;clear A K;try simp only[ar,LT]
       refine aR 11 fun K A=>?_;refine OU _ _ 52 52 J 129 9 underlying52 gP U1.heap.size m m ju cc J J aI 129 Lu (gO cs) Ns.out hz qW (Qx cs) ?_;refine A _ _ ?_;clear A K;try simp only[ar,LT]
       refine dH (by kernel_rfl) ?_ _;go_wp2;go_round;case rel=>exact⟨i+1,by omega,by go_num,HN⟩
       case measure=>simp[intOf];omega
      .go_simp;refine A _ _ ?_;clear A K;try simp only[ar,LT]
       refine aW 8 (U 42) (av (U ⟨b,off+i*4,ab⟩)) ?_;try simp only[ar,LT]
       refine aW 9 (U 43) (av (U ⟨b,off+i*4+1,ab⟩)) ?_;try simp only[ar,LT]
       refine iV (i:=4) (j:=10) (by kernel_rfl) J J J J (fun K A=>?_) (fun K A=>?_)
       .go_simp;refine A _ _ ?_;clear A K;try simp only[ar,LT]
        refine aR 10 fun K A=>?_;go_simp;refine A _ _ ?_;clear A K;try simp only[ar,LT]
        refine aR 11 fun K A=>?_;refine OU _ _ 52 52 J 129 9 underlying52 gP U1.heap.size m m ju cc J J aI 129 Lu (gO cs) Ns.out hz qW (Qx cs) ?_;refine A _ _ ?_;clear A K;try simp only[ar,LT]
        refine dH (by kernel_rfl) ?_ _;go_wp2;go_round;case rel=>exact⟨i+1,by omega,by go_num,HN⟩
        case measure=>simp[intOf];omega
       .go_simp;refine A _ _ ?_;clear A K;try simp only[ar,LT]
        refine aR 4 fun K A=>?_;go_simp;refine A _ _ ?_;clear A K;try simp only[ar,LT]
        refine aR 11 fun K A=>?_;refine OU _ _ 52 52 J 129 9 underlying52 gP U1.heap.size m m ju cc J J aI 129 Lu (gO cs) Ns.out hz qW (Qx cs) ?_;refine A _ _ ?_;clear A K;try simp only[ar,LT]
        refine dH (by kernel_rfl) ?_ _;go_wp2;go_round;case rel=>exact⟨i+1,by omega,by go_num,HN⟩
        case measure=>simp[intOf];omega
  .have jb:¬((i:Int)<(n:Int)):=by omega
   obtain rfl:i=n:=by omega
   have c1:wr.cell? ⟨w.heap.size,1,ab⟩=U (I R aN):=aT _ _ 1 _ _ _ HX.out.box;have c2:wr.cell? ⟨w.heap.size,2,ab⟩=U (I R aP):=aT _ _ 2 _ _ _ HX.out.box;have aZ:=HX.out.ci;obtain⟨rc,cC⟩:∃rc:Array ag,rc=iW (ak (U ⟨w.heap.size+2,0,ab⟩) i i) ⟨aN,aP⟩:=⟨_,J⟩;have mM:rc.all (·.oneCell')=true:=by rw[cC];simp[iW,fG]
   have hr:=aa cC;clear cC;go_wp2_with(refine bK J 32 _ _ J (w.heap.size+1) rc J (by rw[hr.out];rfl) 32 _ aZ (by rw[hr.out];exact pZ) (by rw[hr.out];rfl) mM ?_);have bb:∀k,k≠w.heap.size+1->(wr.setRow (w.heap.size+1) rc).heap[k]?=wr.heap[k]?:=fun k z=>ij wr _ k _ z;refine ba (v:=aw rc) (results_cell_row J _ _ (w.heap.size+1) 32 rc (0,0) _ J (aV _ _ _ _ _ _ aZ) underlying32 J (by rw[hr.out];exact pZ)) J ⟨?_,below_setRow HX.out.below (by omega) _⟩;have pK:rs.length<=maxLen:=by rw[<-HN.out];unfold maxLen;omega
   have Ve:M7 w.heap.size (U ⟨w.heap.size+2,0,ab⟩) rs.length ⟨rs,⟨aN,aP⟩⟩ (wr.setRow (w.heap.size+1) rc):=fun V hV F=>⟨HX.out.bw HN.out Fu.out.bw (fun r L=>Nat.le_trans (H6.out r L) (by omega)) (V:=V) (fun k q h2=>(hV k (by omega) (by rw[iz];exact h2)).trans (bb k (by omega))) (by rw[iz]at F;exact F),aA _,pK,Fu.out⟩;exact⟨U ⟨w.heap.size+2,0,ab⟩,by rw[hr.out,w_.out];unfold iW;simp only;rw[<-HN.out],Ve _ (fun _ _ _=>J) (aA _),Ve⟩
end Go.Proofs.YtefdakbahplnbaaGreatDoor
