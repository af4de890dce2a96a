/- The document's memory at an offset: Put. -/
import Derived.Test.YtefdakbahplnbaaGreatDoorK23
import Derived.Test.YtefdakbahplnbaaGreatDoorK20
open Go.Proofs.Tryz
open And renaming intro->bQ
open Array renaming getElem?_eq_some_iff->bM,getElem?_toList->JN,length_toList->JO,toArray_toList->ze
open Classical renaming byContradiction->pj
open Go renaming Calls->ap,Value->ag,World->ac,cell_of_row->aT,frozen_of_row->cy,heap_alloc_new->a7,heap_alloc_old->AU,setCell_eq_setRow->cJ,setRow_heap->aV,wpAny_done->dH,wpList_buildTo->tS,wpList_load_row->vC,wpList_store_mid->sK,wp_append_lies->xn,wp_load_mid->FQ,wp_load_row->C0,wp_region_any->mj
open Go.Act renaming put->ar
open Go.Ending renaming returned->aq
open Go.IntKind renaming i64->R,u32->aj,u64->ah,wrap_u64->jQ
open Go.Proofs.Tryz renaming prog->ae
open Go.Region renaming wanted->sF
open Go.Value renaming agg->aw,bool->aH,int->I,pointer->av,slice->ak,string->ad,tuple->az
open Go.World renaming drew->ll,news_of_block->lS,size_alloc->bA
open List renaming filter->T5,getElem?_eq_getElem->cq,getElem?_eq_some_iff->pb,length_cons->fh,range->tX
open Nat renaming le_trans->bL,lt_of_lt_of_le->dk
open Option renaming none->ab,some->U
open Option.some renaming inj->dG,injEq->cm
namespace Go.Proofs.YtefdakbahplnbaaGreatDoor.Vr
open Go.RowKit Mm Bp
attribute[local go_sem]IM Dz Am
def aqn(f:Nat->ag)(o:Nat)(l:List ag):Nat->ag:=fun i=>if o<=i/\i<o+l.length then l.getD (i-o) undef else f i
theorem aqo(bu g:Nat)(ty:TypeId):∀(l:List ag)(o:Nat)(f:Nat->ag)(W:ac),W.heap[g]?=U (.cells (VA bu f) ty (0,0))->W.setCells g o l=W.setRow g (VA bu (aqn f o l))
 |[],o,f,W,h=>by rw[show aqn f o []=f by funext i;unfold aqn;rw[if_neg (by simp only[List.length_nil];omega)]];exact(setRow_self W g _ _ _ h).symm
 |x::r,o,f,W,h=>by
  rw[World.setCells,cJ _ _ _ _ _ _ _ h,qu,aqo bu g ty r (o+1) (e0 f o x) _ (aV _ _ _ _ _ _ h),l' _ _ _ _ _ _ h];congr 2;funext i;unfold aqn e0;by_cases q:i=o;.subst q;rw[if_neg (by omega),if_pos J,if_pos (by simp),Nat.sub_self];rfl
  .by_cases h2:o+1<=i/\i<o+1+r.length;.rw[if_pos h2,if_pos (by rw[fh];omega),show i-o=(i-(o+1))+1 by omega,List.getD_cons_succ]
   .rw[if_neg h2,if_neg q,if_neg (by rw[fh];omega)]
theorem kZ.range{g:LY}{r:RS}{W:ac}(h:kZ g r W):W.rangeAt g.g g.o (VA 780 (e' r)).toList:=fun j v hv=>by
 have hj:j<780:=by have:=(pb.1 hv).1;rwa[JO,l7]at this
 have M:=g.VE;rw[JN,km _ _ _ hj]at hv;rw[aT _ _ _ _ _ _ h,km _ _ _ (by omega),ZK _ _ _ hj];exact hv
theorem ZA(D:RB)(r r':RS)(k:Nat):(RW D r' k).setCells D.g.g D.g.o (VA 780 (e' r)).toList=RW D r k:=by
 rw[aqo D.g.bu D.g.g D.g.ty _ _ _ _ (IJ D r' k),show VA D.g.bu (aqn (fQ D.g r') D.g.o (VA 780 (e' r)).toList)=VA D.g.bu (fQ D.g r)from Bz _ _ _ fun i _=>?_,Z'];have hl:(VA 780 (e' r)).toList.length=780:=by rw[JO,l7]
 unfold aqn fQ;rw[hl];by_cases dV:D.g.o<=i/\i<D.g.o+780;.rw[if_pos dV,if_pos dV,List.getD_eq_getElem?_getD,JN,km _ _ _ (by omega)];rfl
 .rw[if_neg dV,if_neg dV,if_neg dV]
theorem afQ{g:LY}{r:RS}{W:ac}(hM:kZ g r W)(a:Nat)(s:ByteArray)(ha:a<18446744073709551616)(F:s.size<=1000):ap ae 22 #[av (U ⟨g.g,g.o,ab⟩),I ah a,ad s] W fun e w'=>W.grownBy w' (U g.g)/\(((∀i,i<s.size->vg r (ch a i))/\e=aq (I R 0)/\kZ g (mY r a s s.size) w')\/(¬(∀i,i<s.size->vg r (ch a i))/\e=aq (I R 5)/\kZ g r w')):=by
 have HM:=aa hM;have kK:=aa ha;obtain⟨o7,gq⟩:∃x:Int,x=(a:Int):=⟨_,J⟩;rw[<-gq];have mo:=aa gq;have hs:g.g<W.heap.size:=(bM.1 hM).1;obtain⟨W1,dU⟩:=af (W.alloc (.cells (VA 780 (e' r)) 63));have Qd:kZ g r W1:=by rw[dU];exact(AU W _ (h:=hs)).trans hM
 have YT:=aa (show W1.heap[W.heap.size]?=U (.cells (VA 780 (e' r)) 63 (0,0))by rw[dU];exact a7 W _);have Dg:=aa (show W.grownBy W1 (U g.g)by rw[dU];exact⟨J,J,J,by simp,fun j hj _=>AU W _ (h:=hj)⟩);clear gq ha hM;go_enter func22,ntmps22;go_wp2_with(first|(refine wpList_load_mid J 63 _ J g.g g.o J (VA 780 (e' r)).toList _ (kZ.range HM.out) underlying63 J (by rw[JO,l7];exact C8) ?_;rw[ze])|(refine wpList_store_row J 63 _ _ J W.heap.size (VA 780 (e' r)) ?_ ?_ 63 Tryz.zeroCells63 ?_ (by rw[l7];exact C8) ?_ (MH _ _ (Th r)) ?_;(.rfl);(.rfl);(.exact a7 W _);(. (rw[l7];kernel_rfl))));rw[World.setRow_alloc_new,<-dU];replace dU:=aa dU;obtain⟨D,bH,xF⟩:∃D:RB,D.W=W1/\D.g=g:=⟨⟨W1,g,r,Qd⟩,J,J⟩;have bN:W1=RW D r 0:=by obtain⟨DA,Bg,apA,Bok⟩:=D;simp only at bH xF;subst bH xF;show DA=(DA.setRow Bg.g (VA Bg.bu (fQ Bg r))).drewN 0;rw[show(DA.setRow Bg.g (VA Bg.bu (fQ Bg r)))=DA from setRow_self DA Bg.g _ _ _ Qd];rfl
 obtain⟨h,hh⟩:=af W.heap.size;have af1:=aa (show∀r' k,(RW D r' k).heap[h]?=U (.cells (VA 780 (e' r)) 63 (0,0))from fun r' k=>by have q:=(PC D r' k).block h (by rw[bH,hh];exact(bM.1 YT.out).1) (fun e=>by have:=dG e;rw[xF]at this;omega);rw[q,bH,hh];exact YT.out);have G1:=aa (show∀r' k,W.grownBy (RW D r' k) (U D.g.g)from fun r' k=>by have q:=PC D r' k;rw[bH]at q;rw[xF]at q⊢;exact⟨q.os.trans Dg.out.os,q.tape.trans Dg.out.tape,q.output.trans Dg.out.output,bL Dg.out.size q.size,fun j hj bo=>(q.block j (dk hj Dg.out.size) bo).trans (Dg.out.block j hj bo)⟩);have Pu:=aa (show∀r' k,kZ g r' (RW D r' k)from fun r' k=>by rw[<-xF];exact Uk D r' k);replace G1:=aa (show∀r' k,W.grownBy (RW D r' k) (U g.g)from fun r' k=>by rw[<-xF];exact G1.out r' k);rw[bN,<-xF,<-hh];replace bN:=aa bN;replace bH:=aa bH;replace hh:=aa hh;replace xF:=aa xF;clear Qd hs HM;go_loopw[8](fun aL w'=>∃i k:Nat,i<=s.size/\aL=I R i/\w'=RW D (mY r a s i) k/\Hid (∀j,j<i->vg r (ch a j)))(fun aL _=>s.size-(intOf aL).toNat);case atStart=>exact⟨0,0,by omega,J,by rw[acj],aa fun j hj=>by omega⟩
 case round=>
  obtain⟨i,k,hi,rfl,rfl,HG⟩:=hrel;by_cases am:i<s.size
  .obtain⟨al,hy⟩:=af (ch a i);obtain⟨x,hx⟩:∃x:Int,x=(al:Int):=⟨_,J⟩;have hw:ah.wrap (o7+i)=x:=by rw[jQ,mo.out,hx,hy];unfold ch;omega
   have aaz:al<18446744073709551616:=by rw[hy];exact Nat.mod_lt _ (by decide)
   have HHH:=aa (af1.out (mY r a s i) k);have HY:=aa hy;clear hy;by_cases dV:al/64<=7
   .have c1:=we D (mY r a s i) k (al/64) (by omega);have e1:(mY r a s i).ew (al/64)=r.ew (al/64):=J;rw[e1]at c1;clear e1;have hy5:al<512:=by omega
    subst hx;clear aaz;by_cases h2:r.ew (al/64)=2
    .rw[h2]at c1;have cL:=aa (show∀j,j<i+1->vg r (ch a j)from fun j hj=>by
      by_cases P7:j<i;.exact HG.out j P7
      .rw[show j=i by omega,<-HY.out];exact⟨dV,h2⟩);have uo:al=a+i:=by have h5:=ZX kK.out cL.out (by omega);rw[HY.out];unfold ch;exact Nat.mod_eq_of_lt (by omega)
     have cV:=cd s i am;have qb:=ea s i;have nD:=fun k=>Ty D (mY r a s i) k (al/64) (al%64) (by omega) (by omega);have lv:=fun k=>abb D (mY r a s i) k (al/64) (al%64) (an s i) (by omega) (by omega);rw[show al/64*64+al%64=a+i by omega]at lv;simp only[Yf]at lv;have hii:(i:Int)<(s.size:Int):=by omega
     clear uo h2;go_wp2_with fail;go_region;go_wp2;go_round;case rel=>exact⟨i+1,_,by omega,by go_num,J,cL⟩
     case measure=>simp[intOf];omega
    .have Rh:=aa (show¬vg r (ch a i)by rw[<-HY.out];exact fun e=>h2 e.2);have d2:((r.ew (al/64):Int)!=2)=true:=by rw[bne_iff_ne];omega
     go_wp2_with(first|(refine vC J 63 _ J h ?_ 63 (VA 780 (e' r)) (0,0) _ ?_ underlying63 J (by rw[l7];exact C8) ?_;(.rfl);(.exact HHH.out))|(refine sK (P:=ae) J 63 _ _ J D.g.g D.g.o (VA 780 (e' r)) ?_ ?_ (by intro j hj;rw[l7]at hj;exact⟨by rw[Hx D _ _ _ hj];rfl,Am D _ _ _⟩) (by rw[l7];exact C8) (MH _ _ (Th r)) ?_;(.rfl);(.rfl);rw[ZA]));go_ret;exact⟨G1.out _ _, .inr ⟨fun h=>Rh.out (h i am),J,Pu.out _ _⟩⟩
   .have Rh:=aa (show¬vg r (ch a i)by rw[<-HY.out];exact fun e=>dV e.1);subst hx;obtain⟨B,N⟩:∃B:Int,B=(al:Int)/64:=⟨_,J⟩;have Fm:ah.wrap ((al:Int)/64)=B:=by rw[jQ,N];omega
    have h7:(7:Int)<B:=by omega
    clear N aaz dV;go_wp2_with(first|(refine vC J 63 _ J h ?_ 63 (VA 780 (e' r)) (0,0) _ ?_ underlying63 J (by rw[l7];exact C8) ?_;(.rfl);(.exact HHH.out))|(refine sK (P:=ae) J 63 _ _ J D.g.g D.g.o (VA 780 (e' r)) ?_ ?_ (by intro j hj;rw[l7]at hj;exact⟨by rw[Hx D _ _ _ hj];rfl,Am D _ _ _⟩) (by rw[l7];exact C8) (MH _ _ (Th r)) ?_;(.rfl);(.rfl);rw[ZA]));go_ret;exact⟨G1.out _ _, .inr ⟨fun h=>Rh.out (h i am),J,Pu.out _ _⟩⟩
  .obtain rfl:i=s.size:=by omega
   go_wp2;go_ret;exact⟨G1.out _ _, .inl ⟨HG.out,J,Pu.out _ _⟩⟩
end Go.Proofs.YtefdakbahplnbaaGreatDoor.Vr
namespace Go.Proofs.YtefdakbahplnbaaGreatDoor.Vr
open Go.RowKit Mm
def fD(aC:LY)(m:MS)(W:ac):Prop:=∃r,kZ aC r W/\pD m r
theorem fD.lt{aC:LY}{m:MS}{W:ac}(h:fD aC m W):aC.g<W.heap.size:=h.elim fun _ h=>h.1.lt
theorem fD.au{aC:LY}{m:MS}{W V:ac}(h:fD aC m W)(hb:Below W.heap.size W V):fD aC m V:=h.elim fun r h=>⟨r,h.1.au hb,h.2⟩
theorem wR{fn:FuncId}{args:LY->Array ag}{aC:LY}{r r':RS}{v:ag}{W:ac}(hR:kZ aC r W)(h:∀D:RB,ap ae fn (args D.g) (RW D r 0) fun e w'=>e=aq v/\∃k',w'=RW D r' k'):ap ae fn (args aC) W fun e w'=>e=aq v/\kZ aC r' w'/\W.grownBy w' (U aC.g):=by have H:=h ⟨W,aC,r,hR⟩;rw[<-aau hR]at H;exact H.mono fun e w'⟨he,k',hw⟩=>⟨he,by rw[hw];exact Uk _ _ _,by rw[hw];exact PC ⟨W,aC,r,hR⟩ _ _⟩
theorem ac0{aC:LY}{m:MS}{W:ac}(h:fD aC m W)(n:Int)(b:Bool):ap ae 23 #[av (U ⟨aC.g,aC.o,ab⟩),I R n,aH b] W fun e w'=>e=aq (I R ((jG n b m).2:Nat))/\fD aC (jG n b m).1 w'/\W.grownBy w' (U aC.g):=by
 obtain⟨r,hR,L⟩:=h;unfold jG;by_cases u:0<=n/\n<8;.rw[if_pos u];obtain⟨k,rfl⟩:∃k:Nat,n=k:=⟨n.toNat,by omega⟩;refine(wR (args:=fun aC=>#[av (U ⟨aC.g,aC.o,ab⟩),I R (k:Int),aH b]) hR fun D=>(am_ D r 0 k b (by omega)).mono fun e w'⟨he,hw⟩=>⟨he,0,hw⟩).mono ?_;rintro e w'⟨he,q,h2⟩;exact⟨he,⟨_,q,by rw[Int.toNat_natCast];exact ahW L k (by omega) b⟩,h2⟩
 .rw[if_neg u];refine(wR (args:=fun aC=>#[av (U ⟨aC.g,aC.o,ab⟩),I R n,aH b]) hR fun D=>(aln D r 0 n b (by omega)).mono fun e w'⟨he,hw⟩=>⟨he,0,hw⟩).mono ?_;rintro e w'⟨he,q,h2⟩;exact⟨he,⟨r,q,L⟩,h2⟩
theorem alI{aC:LY}{m:MS}{W:ac}(h:fD aC m W)(n:Int):ap ae 24 #[av (U ⟨aC.g,aC.o,ab⟩),I R n] W fun e w'=>e=aq (I R ((jK n m).2:Nat))/\fD aC (jK n m).1 w'/\W.grownBy w' (U aC.g):=by
 obtain⟨r,hR,L⟩:=h;unfold jK;by_cases u:0<=n/\n<8
 .obtain⟨k,rfl⟩:∃k:Nat,n=k:=⟨n.toNat,by omega⟩;have hp:=L.pg k (by omega);rw[Int.toNat_natCast];cases hf:m.rd k with
   |true=>rw[if_pos ⟨u.1,u.2,J⟩];refine(wR (args:=fun aC=>#[av (U ⟨aC.g,aC.o,ab⟩),I R (k:Int)]) hR fun D=>(ajo D r 0 k (by omega) (hp.1 hf)).mono fun e w'⟨he,hw⟩=>⟨he,0,hw⟩).mono ?_;rintro e w'⟨he,q,h2⟩;exact⟨he,⟨_,q,aas L k (by omega)⟩,h2⟩
   |false=>rw[if_neg (fun h=>by cases h.2.2)];refine(wR (args:=fun aC=>#[av (U ⟨aC.g,aC.o,ab⟩),I R (k:Int)]) hR fun D=>(alj D r 0 k (by omega) (pj fun e=>by rw[hp.2 e]at hf;cases hf)).mono fun e w'⟨he,hw⟩=>⟨he,0,hw⟩).mono ?_;rintro e w'⟨he,q,h2⟩;exact⟨he,⟨r,q,L⟩,h2⟩
 .rw[if_neg (fun h'=>u ⟨h'.1,h'.2.1⟩)];refine(wR (args:=fun aC=>#[av (U ⟨aC.g,aC.o,ab⟩),I R n]) hR fun D=>(afr D r 0 n (by omega)).mono fun e w'⟨he,hw⟩=>⟨he,0,hw⟩).mono ?_;rintro e w'⟨he,q,h2⟩;exact⟨he,⟨r,q,L⟩,h2⟩
theorem ao4{aC:LY}{m:MS}{W:ac}(h:fD aC m W)(a:Nat)(s:ByteArray)(ha:a<18446744073709551616)(F:s.size<=1000):ap ae 22 #[av (U ⟨aC.g,aC.o,ab⟩),I ah a,ad s] W fun e w'=>e=aq (I R ((jw a s m).2:Nat))/\fD aC (jw a s m).1 w'/\W.grownBy w' (U aC.g):=by
 obtain⟨r,hR,L⟩:=h;refine(afQ hR a s ha F).mono ?_;rintro e w'⟨Ef,q|q⟩;.have hg:∀i,i<s.size->qR m (ch a i):=fun i hi=>(Zl L _).2 (q.1 i hi);unfold jw;rw[if_pos hg];exact⟨q.2.1,⟨_,q.2.2,anm L a s q.1 ha⟩,Ef⟩
 .have hg:¬∀i,i<s.size->qR m (ch a i):=fun hg=>q.1 fun i hi=>(Zl L _).1 (hg i hi);unfold jw;rw[if_neg hg];exact⟨q.2.1,⟨r,q.2.2,L⟩,Ef⟩
theorem an3{aC:LY}{m:MS}{W:ac}(h:fD aC m W)(a:Nat)(ha:a<18446744073709551616):ap ae 154 #[av (U ⟨aC.g,aC.o,ab⟩),I ah a] W fun e w'=>(∃v,e=aq v)/\fD aC (jk m a) w'/\W.grownBy w' (U aC.g):=by
 obtain⟨r,hR,L⟩:=h;unfold jk;by_cases M:8<=a/64/\a/64<12/\a%64=0/\m.rd (a/64)=true;.rw[if_pos M];obtain⟨h8,eL,h0,hf⟩:=M;have H:=wR (args:=fun aC=>#[av (U ⟨aC.g,aC.o,ab⟩),I ah ((a/64*64:Nat):Int)]) hR fun D=>(akX D r 0 (a/64) h8 (by omega) ((L.pg _ (by omega)).1 hf)).mono fun e w'⟨he,hw⟩=>⟨he,0,hw⟩;rw[show a/64*64=a by omega]at H;refine H.mono ?_;rintro e w'⟨he,q,h2⟩;exact⟨⟨_,he⟩,⟨_,q,aas L _ (by omega)⟩,h2⟩
 .rw[if_neg M];refine(wR (args:=fun aC=>#[av (U ⟨aC.g,aC.o,ab⟩),I ah (a:Int)]) hR fun D=>(agU D r 0 a ha fun hx=>M ⟨hx.2.1,by omega,hx.1,(L.pg _ (by omega)).2 hx.2.2.2⟩).mono fun e w'⟨he,hw⟩=>⟨he,0,hw⟩).mono ?_;rintro e w'⟨he,q,h2⟩;exact⟨⟨_,he⟩,⟨r,q,L⟩,h2⟩
theorem aij{aC:LY}{m:MS}{W:ac}(h:fD aC m W){B:Nat}(N:kW m=U B)(s:ByteArray)(F:s.size<=64):ap ae 119 #[av (U ⟨aC.g,aC.o,ab⟩),ad s] W fun e w'=>e=aq (az #[I ah ((B*64:Nat):Int),I R 0])/\fD aC (jI m B s.data.toList) w'/\W.grownBy w' (U aC.g):=by obtain⟨r,hR,L⟩:=h;obtain⟨q,h2,h3,h4⟩:=LL N;refine(wR (args:=fun aC=>#[av (U ⟨aC.g,aC.o,ab⟩),ad s]) hR fun D=>ah8 D r 0 B s F q h2 (fun n a b=>(L.pg n (by omega)).1 (h4 n a b)) (pj fun e=>by rw[(L.pg B (by omega)).2 e]at h3;cases h3)).mono ?_;rintro e w'⟨he,k1,k2⟩;exact⟨he,⟨_,k1,ahM L B q h2 h3 s F⟩,k2⟩
theorem adS{aC:LY}{m:MS}{W:ac}(h:fD aC m W)(N:kW m=ab)(s:ByteArray)(F:s.size<=64):ap ae 119 #[av (U ⟨aC.g,aC.o,ab⟩),ad s] W fun e w'=>e=aq (az #[I ah 0,I R 9])/\fD aC m w'/\W.grownBy w' (U aC.g):=by obtain⟨r,hR,L⟩:=h;refine(wR (args:=fun aC=>#[av (U ⟨aC.g,aC.o,ab⟩),ad s]) hR fun D=>ahZ D r 0 s F fun n a b=>(L.pg n b).1 (U_ N n a b)).mono ?_;rintro e w'⟨he,k1,k2⟩;exact⟨he,⟨r,k1,L⟩,k2⟩
theorem ae_{aC:LY}{m:MS}{W:ac}(h:fD aC m W)(a:Nat)(ha:a<18446744073709551616):ap ae 113 #[av (U ⟨aC.g,aC.o,ab⟩),I ah a] W fun e w'=>e=aq (vP (ey m a))/\w'=W:=by obtain⟨r,hR,L⟩:=h;rw[QO L];exact Oj hR a ha
theorem aiR{aC:LY}{m:MS}{W:ac}(h:fD aC m W)(a n:Nat)(ha:a<18446744073709551616)(u:n<=512):ap ae 157 #[av (U ⟨aC.g,aC.o,ab⟩),I ah a,I R n] W fun e w'=>e=aq (F9 (h1 m a n))/\Below W.heap.size W w':=by obtain⟨r,hR,L⟩:=h;rw[Ys,QO L];exact ai9 hR a n ha u L.zo
theorem agT{aC:LY}{m:MS}{W:ac}(h:fD aC m W)(a:Nat)(ha:a<18446744073709551616):ap ae 156 #[av (U ⟨aC.g,aC.o,ab⟩),I ah a] W fun e w'=>e=aq (Lh (Mm.aqq (ey m) a 41 0 []))/\Below W.heap.size W w':=by obtain⟨r,hR,L⟩:=h;rw[QO L];exact aoG hR a ha L.zo
theorem amt{aC:LY}{m:MS}{W:ac}(h:fD aC m W):ap ae 31 #[av (U ⟨aC.g,aC.o,ab⟩)] W fun e w'=>e=aq (I R (na m 4:Nat))/\fD aC m w'/\W.grownBy w' (U aC.g):=by obtain⟨r,hR,L⟩:=h;rw[aa7 L 4 (by omega)];refine(wR (args:=fun aC=>#[av (U ⟨aC.g,aC.o,ab⟩)]) hR fun D=>(aiv D r 0).mono fun e w'⟨he,hw⟩=>⟨he,0,hw⟩).mono ?_;rintro e w'⟨he,k1,k2⟩;exact⟨he,⟨r,k1,L⟩,k2⟩
end Go.Proofs.YtefdakbahplnbaaGreatDoor.Vr
namespace Go.Proofs.YtefdakbahplnbaaGreatDoor
open Go.RowKit Mm
def cO(t:DT)(E:ag)(j:Nat):ag:=if j=0 then I R t.phase else if j=1 then I aj t.b'.ej else if j=2 then I aj t.b'.nr else if j<7 then I ah (fk t.b' (j-3))else if j=7 then I aj t.b'.ej else if j=8 then I aj t.b'.nr else if j<13 then I ah (t.dI (j-9))else if j<17 then ad (bs (t.cn (j-13)))else if j=17 then I R t.a6 else if j=30 then E else if(j-18)%3=0 then ad (t.aG ((j-18)/3)).bf else if(j-18)%3=1 then I aj (t.aG ((j-18)/3)).ip else I R (t.aG ((j-18)/3)).aB
def kY(P:PV)(T:Nat->DT)(E:Nat->ag)(y:ag)(i:Nat):ag:=if i=0 then ak P.oa P.p.bw.length P.cap else if i=1 then I R P.p.bg.aF else if i=2 then I R P.p.bg.aU else if i<876 then cO (T ((i-783)/31)) (E ((i-783)/31)) ((i-783)%31)else y
theorem ML(P:PV)(T:Nat->DT)(E:Nat->ag)(y:ag)(n j:Nat)(u:n<3)(hj:j<31):kY P T E y (783+n*31+j)=cO (T n) (E n) j:=by unfold kY;rw[if_neg (by omega),if_neg (by omega),if_neg (by omega),if_pos (by omega),show(783+n*31+j-783)/31=n by omega,show(783+n*31+j-783)%31=j by omega]
def LD(g:Nat)(P:PV)(T:Nat->DT)(E:Nat->ag)(y:ag):Vr.LY:=⟨g,3,877,80,kY P T E y,by omega⟩
def qf(l:List Nat):List ag:=l.map fun x=>I ah (x:Nat)
structure DX(g:Nat)(P:PV)(d:bC)(E:Nat->ag)(y:ag)(W:ac):Prop where
 mem:Vr.fD (LD g P d.T E y) d.mem W
 cW:W.ownsRow 0 103 21 y d.aX.length (gk d.aX)
 oM:∀n,n<3->W.ownsRow 0 65 1 (E n) (d.T n).bP.length (qf (d.T n).bP)
 nl:y.ownBlock≠U g/\∀n,n<3->(E n).ownBlock≠U g
 mF:∀n k,n<3->(E n).ownBlock=U k->y.ownBlock≠U k/\∀m,m<3->m≠n->(E m).ownBlock≠U k
 cF:P.cF<=W.heap.size
 iv:∀V:ac,(∀k,k<P.cF->k≠g->y.ownBlock≠U k->(∀n,n<3->(E n).ownBlock≠U k)->V.heap[k]?=W.heap[k]?)->P.cF<=V.heap.size->fc P.oa P.cap P.p V
theorem DX.gh{g:Nat}{P:PV}{d:bC}{E:Nat->ag}{y:ag}{W:ac}(h:DX g P d E y W):g<W.heap.size:=h.mem.lt
theorem DX.cell{g:Nat}{P:PV}{d:bC}{E:Nat->ag}{y:ag}{W:ac}(h:DX g P d E y W)(i:Nat)(hi:i<877)(hm:i<3\/783<=i):W.cell? ⟨g,i,ab⟩=U (kY P d.T E y i):=by
 obtain⟨r,L,_⟩:=h.mem;replace L:W.heap[g]?=U (.cells (VA 877 (Vr.fQ (LD g P d.T E y) r)) 80 (0,0)):=L;rw[aT _ _ i _ _ _ L];show(VA 877 (Vr.fQ (LD g P d.T E y) r))[i]?=_;rw[km _ _ _ hi,Vr.JD];.rfl
 .show¬(3<=i/\i<3+780);omega
theorem DX.b5{g:Nat}{P:PV}{d:bC}{E:Nat->ag}{y:ag}{W:ac}(h:DX g P d E y W)(i:Nat):W.frozen? ⟨g,i,ab⟩=false:=by obtain⟨r,L,_⟩:=h.mem;replace L:W.heap[g]?=U (.cells (VA 877 (Vr.fQ (LD g P d.T E y) r)) 80 (0,0)):=L;exact cy _ _ i _ _ L
theorem DX.th{g:Nat}{P:PV}{d:bC}{E:Nat->ag}{y:ag}{W:ac}(h:DX g P d E y W)(n j:Nat)(u:n<3)(hj:j<31):W.cell? ⟨g,783+n*31+j,ab⟩=U (cO (d.T n) (E n) j):=by rw[h.cell _ (by omega) (.inr (by omega)),ML _ _ _ _ _ _ u hj]
theorem DX.au{g:Nat}{P:PV}{d:bC}{E:Nat->ag}{y:ag}{W V:ac}(h:DX g P d E y W)(hb:Below W.heap.size W V):DX g P d E y V:=⟨h.mem.au hb,yY h.cW hb,fun n u=>yY (h.oM n u) hb,h.nl,h.mF,bL h.cF hb.size,fun cv hU F=>h.iv cv (fun k z q h2 h3=>(hU k z q h2 h3).trans (hb.block k (dk z h.cF))) F⟩
theorem DX.me{g:Nat}{P:PV}{d:bC}{E:Nat->ag}{y:ag}{W V:ac}(h:DX g P d E y W){m:MS}(hm:Vr.fD (LD g P d.T E y) m V)(hg:W.grownBy V (U g)):DX g P {d with mem:=m} E y V:=⟨hm,pQ h.cW hg h.nl.1,fun n u=>pQ (h.oM n u) hg (h.nl.2 n u),h.nl,h.mF,bL h.cF hg.size,fun cv hU F=>h.iv cv (fun k z q h2 h3=>(hU k z q h2 h3).trans (hg.block k (dk z h.cF) (fun e=>q (dG e)))) F⟩
theorem DX.F_{g:Nat}{P:PV}{d:bC}{E:Nat->ag}{y:ag}{W:ac}(h:DX g P d E y W)(n:Nat)(u:n<3)(t:DT)(F:t.bP=(d.T n).bP)(f:Nat->ag)(q:∀j,j<31->f (783+n*31+j)=cO t (E n) j)(r:RS)(L:W.heap[g]?=U (.cells (VA 877 (Vr.fQ (LD g P d.T E y) r)) 80 (0,0)))(hrel:pD d.mem r)(h2:∀i,(∀j,j<31->i≠783+n*31+j)->f i=Vr.fQ (LD g P d.T E y) r i):DX g P (d.put n t) E y (W.setRow g (VA 877 f)):=by
 have hg:=Fg W g (VA 877 f);have eV:(W.setRow g (VA 877 f)).heap[g]?=U (.cells (VA 877 f) 80 (0,0)):=aV _ _ _ _ _ _ L;have M:VA 877 f=VA 877 (Vr.fQ (LD g P (d.put n t).T E y) r):=Bz _ _ _ fun i hi=>by
  by_cases dV:783+n*31<=i/\i<783+n*31+31;.obtain⟨j,hj,rfl⟩:∃j,j<31/\i=783+n*31+j:=⟨i-(783+n*31),by omega,by omega⟩;rw[q j hj,Vr.JD _ _ _ (by show¬(3<=_/\_<3+780);omega)];show _=kY P (aO d.T n t) E y _;rw[ML _ _ _ _ _ _ u hj,dN]
  .rw[h2 i fun j hj=>by omega];unfold Vr.fQ;by_cases hm:3<=i/\i<3+780;.rw[if_pos (show(LD g P d.T E y).o<=i/\i<(LD g P d.T E y).o+780 from hm),if_pos (show(LD g P (d.put n t).T E y).o<=i/\i<(LD g P (d.put n t).T E y).o+780 from hm)];rfl
   .rw[if_neg (show¬((LD g P d.T E y).o<=i/\i<(LD g P d.T E y).o+780)from hm),if_neg (show¬((LD g P (d.put n t).T E y).o<=i/\i<(LD g P (d.put n t).T E y).o+780)from hm)];show kY P d.T E y i=kY P (aO d.T n t) E y i;unfold kY;split;.rfl
    .split;.rfl
     .split;.rfl
      .split;.rw[ed _ _ (by omega)]
       .rfl
 refine⟨⟨r,by rw[M]at eV⊢;exact eV,hrel⟩,pQ h.cW hg h.nl.1,fun k z=>?_,h.nl,h.mF,by rw[iz];exact h.cF,fun cv hU F=>h.iv cv (fun k z q1 q2 q3=>(hU k z q1 q2 q3).trans (ij W g k _ q1)) F⟩;have:=pQ (h.oM k z) hg (h.nl.2 k z);show(W.setRow g _).ownsRow 0 65 1 (E k) (aO d.T n t k).bP.length (qf (aO d.T n t k).bP);by_cases c8:k=n;.subst c8;rw[dN,F];exact this
 .rw[ed _ _ c8];exact this
theorem DX.wg{g:Nat}{P:PV}{d:bC}{E:Nat->ag}{y:ag}{W:ac}(h:DX g P d E y W)(n j:Nat)(u:n<3)(hj:j<31)(v:ag)(t:DT)(F:t.bP=(d.T n).bP)(H:∀k,k<31->cO t (E n) k=if k=j then v else cO (d.T n) (E n) k):DX g P (d.put n t) E y (W.setCell ⟨g,783+n*31+j,ab⟩ v):=by
 obtain⟨r,L,hrel⟩:=h.mem;replace L:W.heap[g]?=U (.cells (VA 877 (Vr.fQ (LD g P d.T E y) r)) 80 (0,0)):=L;rw[cJ _ _ _ _ _ _ _ L,qu];refine h.F_ n u t F _ (fun k z=>?_) r L hrel (fun i hi=>?_)
 .unfold e0;rw[H k z];by_cases Iw:k=j;.rw[if_pos (by omega),if_pos Iw]
  .rw[if_neg (by omega),if_neg Iw,Vr.JD _ _ _ (by show¬(3<=_/\_<3+780);omega)];exact ML _ _ _ _ _ _ u z
 .unfold e0;rw[if_neg (hi j hj)]
structure bi(g:Nat)(E:Nat->ag)(y:ag)(sv':Nat->ag)(a8:ag)(W V:ac):Prop where
 os:V.os=W.os
 tape:V.tape=W.tape
 output:V.output=W.output
 size:W.heap.size<=V.heap.size
 block:∀k,k<W.heap.size->k≠g->y.ownBlock≠U k->(∀n,n<3->(E n).ownBlock≠U k)->V.heap[k]?=W.heap[k]?
 Eh:∀k,a8.ownBlock=U k->y.ownBlock=U k\/W.heap.size<=k
 Ds:∀n,n<3->∀k,(sv' n).ownBlock=U k->(E n).ownBlock=U k\/W.heap.size<=k
theorem bi.trans{g:Nat}{s1 s2 s3:Nat->ag}{l1 l2 mS:ag}{a b c:ac}(h:bi g s1 l1 s2 l2 a b)(k:bi g s2 l2 s3 mS b c):bi g s1 l1 s3 mS a c:=⟨k.os.trans h.os,k.tape.trans h.tape,k.output.trans h.output,bL h.size k.size,fun i hi q h2 h3=>(k.block i (dk hi h.size) q (fun e=>by
 rcases h.Eh i e with h4|h4;.exact h2 h4
 .omega) (fun n u e=>by
 rcases h.Ds n u i e with h4|h4;.exact h3 n u h4
 .omega)).trans (h.block i hi q h2 h3),fun i hi=>by
 rcases k.Eh i hi with h4|h4;.exact h.Eh i h4
 .exact .inr (bL h.size h4),fun n u i hi=>by
 rcases k.Ds n u i hi with h4|h4;.exact h.Ds n u i h4
 .exact .inr (bL h.size h4)⟩
theorem bi.bk{g:Nat}(E:Nat->ag)(y:ag){a b:ac}(h:Below a.heap.size a b):bi g E y E y a b:=⟨h.os,h.tape,h.output,h.size,fun k z _ _ _=>h.block k z,fun _ h=> .inl h,fun _ _ _ h=> .inl h⟩
theorem bi.refl(g:Nat)(E:Nat->ag)(y:ag)(W:ac):bi g E y E y W W:=bi.bk E y (Below.refl _ _)
theorem bi.grown{g:Nat}(E:Nat->ag)(y:ag){a b:ac}(h:a.grownBy b (U g)):bi g E y E y a b:=⟨h.os,h.tape,h.output,h.size,fun k dY q _ _=>h.block k dY (fun e=>by cases e;omega),fun _ h=> .inl h,fun _ _ _ h=> .inl h⟩
theorem bi.set{g:Nat}(E:Nat->ag)(y:ag)(W:ac)(o:Nat)(v:ag):bi g E y E y W (W.setCell ⟨g,o,ab⟩ v):=bi.grown E y (b4.set g o W v).grown
theorem DX.Pb{g:Nat}{P:PV}{d d':bC}{E sv':Nat->ag}{y a8:ag}{W V:ac}(h:DX g P d E y W)(fr:bi g E y sv' a8 W V)(mem:Vr.fD (LD g P d'.T sv' a8) d'.mem V)(cW:V.ownsRow 0 103 21 a8 d'.aX.length (gk d'.aX))(oM:∀n,n<3->V.ownsRow 0 65 1 (sv' n) (d'.T n).bP.length (qf (d'.T n).bP))(mF:∀n k,n<3->(sv' n).ownBlock=U k->a8.ownBlock≠U k/\∀m,m<3->m≠n->(sv' m).ownBlock≠U k):DX g P d' sv' a8 V:=by
 have hg:=h.gh;refine⟨mem,cW,oM,⟨fun e=>?_,fun n u e=>?_⟩,mF,bL h.cF fr.size,fun cv hU F=>h.iv cv (fun k z q h2 h3=>?_) F⟩
 .rcases fr.Eh g e with q|q;.exact h.nl.1 q
  .omega
 .rcases fr.Ds n u g e with q|q;.exact h.nl.2 n u q
  .omega
 .have hb:=h.cF;refine(hU k z q (fun e=>?_) (fun n u e=>?_)).trans (fr.block k (by omega) q h2 h3)
  .rcases fr.Eh k e with h4|h4;.exact h2 h4
   .omega
  .rcases fr.Ds n u k e with h4|h4;.exact h3 n u h4
   .omega
theorem ZG{g:Nat}{P:PV}{T T':Nat->DT}{E sv':Nat->ag}{y a8:ag}{m:MS}{r:RS}{W:ac}(L:W.heap[g]?=U (.cells (VA 877 (Vr.fQ (LD g P T E y) r)) 80 (0,0)))(hrel:pD m r)(f:Nat->ag)(q:∀j,3<=j->j<783->f j=e' r (j-3))(h2:∀j,j<877->(j<3\/783<=j)->f j=kY P T' sv' a8 j):Vr.fD (LD g P T' sv' a8) m (W.setRow g (VA 877 f)):=by
 refine⟨r,?_,hrel⟩;show(W.setRow g (VA 877 f)).heap[g]?=U (.cells (VA 877 (Vr.fQ (LD g P T' sv' a8) r)) 80 (0,0));rw[aV _ _ _ _ _ _ L,Bz 877 f (Vr.fQ (LD g P T' sv' a8) r) fun j hj=>?_];by_cases hm:3<=j/\j<783;.rw[q j hm.1 hm.2];unfold Vr.fQ;rw[if_pos (show(LD g P T' sv' a8).o<=j/\j<(LD g P T' sv' a8).o+780 from by show 3<=j/\j<3+780;omega)];rfl
 .rw[h2 j hj (by omega),Vr.JD _ _ _ (by show¬(3<=j/\j<3+780);omega)];rfl
theorem aat{g:Nat}{P:PV}{T:Nat->DT}{E:Nat->ag}{y:ag}{r:RS}(j:Nat)(q:3<=j)(h2:j<783):Vr.fQ (LD g P T E y) r j=e' r (j-3):=by unfold Vr.fQ;rw[if_pos (show(LD g P T E y).o<=j/\j<(LD g P T E y).o+780 from by show 3<=j/\j<3+780;omega)];rfl
theorem Y'{g:Nat}{P:PV}{T:Nat->DT}{E:Nat->ag}{y:ag}{r:RS}(j:Nat)(h:j<3\/783<=j):Vr.fQ (LD g P T E y) r j=kY P T E y j:=by rw[Vr.JD _ _ _ (by show¬(3<=j/\j<3+780);omega)];rfl
theorem aao{g:Nat}{P:PV}{T T':Nat->DT}{E sv':Nat->ag}{y a8:ag}{m:MS}{W:ac}(h:Vr.fD (LD g P T E y) m W)(i:Nat)(ho:i<3\/783<=i)(v:ag)(he:∀j,j<877->(j<3\/783<=j)->kY P T' sv' a8 j=if j=i then v else kY P T E y j):Vr.fD (LD g P T' sv' a8) m (W.setCell ⟨g,i,ab⟩ v):=by
 obtain⟨r,L,hrel⟩:=h;replace L:W.heap[g]?=U (.cells (VA 877 (Vr.fQ (LD g P T E y) r)) 80 (0,0)):=L;rw[cJ _ _ _ _ _ _ _ L,qu];refine ZG L hrel _ (fun j q h2=>?_) (fun j hj M=>?_);.unfold e0;rw[if_neg (by omega),aat j q h2]
 .unfold e0;rw[he j hj M,Y' j M]
theorem ak0{g:Nat}{P:PV}{T T':Nat->DT}{E sv':Nat->ag}{y a8:ag}{m:MS}{W:ac}(h:Vr.fD (LD g P T E y) m W)(o:Nat)(ho:783<=o)(l:List ag)(he:∀j,j<877->(j<3\/783<=j)->kY P T' sv' a8 j=if o<=j/\j<o+l.length then l.getD (j-o) undef else kY P T E y j):Vr.fD (LD g P T' sv' a8) m (W.setCells g o l):=by
 obtain⟨r,L,hrel⟩:=h;replace L:W.heap[g]?=U (.cells (VA 877 (Vr.fQ (LD g P T E y) r)) 80 (0,0)):=L;rw[Vr.aqo 877 g 80 l o _ W L];refine ZG L hrel _ (fun j q h2=>?_) (fun j hj M=>?_);.unfold Vr.aqn;rw[if_neg (by omega),aat j q h2]
 .unfold Vr.aqn;rw[he j hj M,Y' j M]
theorem Vl(P:PV)(T:Nat->DT)(E:Nat->ag)(y:ag)(n:Nat)(t:DT)(v':ag)(j:Nat)(hj:j<877)(M:j<3\/783<=j):kY P (aO T n t) (aO E n v') y j=if 783+n*31<=j/\j<783+n*31+31/\n<3 then cO t v' (j-(783+n*31))else kY P T E y j:=by
 unfold kY;by_cases h0:j=0;.rw[if_pos h0,if_pos h0,if_neg (by omega)]
 .rw[if_neg h0,if_neg h0];by_cases q:j=1;.rw[if_pos q,if_pos q,if_neg (by omega)]
  .rw[if_neg q,if_neg q];by_cases h2:j=2;.rw[if_pos h2,if_pos h2,if_neg (by omega)]
   .rw[if_neg h2,if_neg h2];by_cases h8:j<876
    .rw[if_pos h8,if_pos h8];by_cases u:(j-783)/31=n;.rw[if_pos (by omega),u,dN,dN,show(j-783)%31=j-(783+n*31)by omega]
     .rw[if_neg (by omega),ed _ _ u,ed _ _ u]
    .rw[if_neg h8,if_neg h8,if_neg (by omega)]
theorem akW(P:PV)(T:Nat->DT)(E:Nat->ag)(y a8:ag)(j:Nat)(hj:j<877)(_hf:j<3\/783<=j):kY P T E a8 j=if j=876 then a8 else kY P T E y j:=by
 unfold kY;by_cases h0:j=0;.rw[if_pos h0,if_pos h0,if_neg (by omega)]
 .rw[if_neg h0,if_neg h0];by_cases q:j=1;.rw[if_pos q,if_pos q,if_neg (by omega)]
  .rw[if_neg q,if_neg q];by_cases h2:j=2;.rw[if_pos h2,if_pos h2,if_neg (by omega)]
   .rw[if_neg h2,if_neg h2];by_cases h8:j<876;.rw[if_pos h8,if_pos h8,if_neg (by omega)]
    .rw[if_neg h8,if_pos (by omega)]
theorem alZ(t:DT)(v v':ag)(l:List Nat)(k:Nat):cO {t with bP:=l} v' k=if k=30 then v' else cO t v k:=by
 by_cases h:k=30;.subst h;rfl
 .rw[if_neg h];unfold cO;simp only[if_neg h]
theorem DX.bP{g:Nat}{P:PV}{d:bC}{E:Nat->ag}{y:ag}{W V:ac}(h:DX g P d E y W)(n:Nat)(u:n<3){l:List Nat}{v':ag}(hg:W.grownBy V (E n).ownBlock)(hl:∀k,v'.ownBlock=U k->(E n).ownBlock=U k\/W.heap.size<=k)(ho:V.ownsRow 0 65 1 v' l.length (qf l)):DX g P (d.put n {d.T n with bP:=l}) (aO E n v') y (V.setCell ⟨g,783+n*31+30,ab⟩ v')/\bi g E y (aO E n v') y W (V.setCell ⟨g,783+n*31+30,ab⟩ v'):=by
 have hs:=h.gh;have g6:=h.nl.2 n u;have Q3:v'.ownBlock≠U g:=fun e=>by
  rcases hl g e with q|q;.exact g6 q
  .omega
 have F:=(b4.set g (783+n*31+30) V v').grown;have xy:bi g E y (aO E n v') y W (V.setCell ⟨g,783+n*31+30,ab⟩ v'):=by
  refine⟨F.os.trans hg.os,F.tape.trans hg.tape,F.output.trans hg.output,bL hg.size F.size,fun k z q h2 h3=>?_,fun _ h=> .inl h,fun m hm k z=>?_⟩;.exact(F.block k (dk z hg.size) (fun e=>q (dG e))).trans (hg.block k z (fun e=>h3 n u e.symm))
  .by_cases l5:m=n;.subst l5;rw[dN]at z;exact hl k z
   .rw[ed _ _ l5]at z;exact .inl z
 have am:∀m,m<3->∀k,(E m).ownBlock=U k->k<W.heap.size:=fun m hm k z=>((h.oM m hm).lt k z).2;have lT:∀k,y.ownBlock=U k->k<W.heap.size:=fun k z=>(h.cW.lt k z).2;refine⟨h.Pb xy ?_ ?_ ?_ ?_,xy⟩
 .refine aao (h.mem.imp fun r L=>⟨(hg.block g hs (fun e=>g6 e.symm)).trans L.1,L.2⟩) _ (.inr (by omega)) _ (fun j hj M=>?_);show kY P (aO d.T n _) (aO E n v') y j=_;rw[Vl _ _ _ _ _ _ _ _ hj M];by_cases dV:783+n*31<=j/\j<783+n*31+31/\n<3
  .rw[if_pos dV,alZ (d.T n) (E n)];obtain⟨k,z⟩:∃k,j=783+n*31+k:=⟨j-(783+n*31),by omega⟩;subst z;rw[show 783+n*31+k-(783+n*31)=k by omega];by_cases z:k=30;.rw[if_pos z,if_pos (by omega)]
   .rw[if_neg z,if_neg (by omega),ML _ _ _ _ _ _ u (by omega)]
  .rw[if_neg dV,if_neg (by omega)]
 .refine pQ (h.cW.kept hg ?_) F h.nl.1;cases hb:y.ownBlock with
   |none=>exact .inl J
   |some k=>exact .inr (fun e=>(h.mF n k u e.symm).1 hb)
 .intro m hm;show World.ownsRow _ 0 65 1 (aO E n v' m) (aO d.T n {d.T n with bP:=l} m).bP.length (qf (aO d.T n {d.T n with bP:=l} m).bP);by_cases l5:m=n;.subst l5;rw[dN,dN];exact pQ ho F Q3
  .rw[ed _ _ l5,ed _ _ l5];refine pQ ((h.oM m hm).kept hg ?_) F (h.nl.2 m hm);cases hb:(E m).ownBlock with
    |none=>exact .inl J
    |some k=>exact .inr (fun e=>(h.mF n k u e.symm).2 m hm l5 hb)
 .intro m k hm z;by_cases l5:m=n
  .subst l5;rw[dN]at z;rcases hl k z with q|q;.exact⟨(h.mF m k hm q).1,fun i hi bo=>by rw[ed _ _ bo];exact(h.mF m k hm q).2 i hi bo⟩
   .exact⟨fun e=>by have:=lT k e;omega,fun i hi bo=>by rw[ed _ _ bo];exact fun e=>by have:=am i hi k e;omega⟩
  .rw[ed _ _ l5]at z;refine⟨(h.mF m k hm z).1,fun i hi bo=>?_⟩;by_cases dV:i=n
   .subst dV;rw[dN];intro e;rcases hl k e with q|q;.exact(h.mF m k hm z).2 i hi bo q
    .have:=am m hm k z;omega
   .rw[ed _ _ dV];exact(h.mF m k hm z).2 i hi bo
theorem DX.Jz{g:Nat}{P:PV}{d:bC}{E:Nat->ag}{y a8:ag}{W V:ac}(h:DX g P d E y W){l:List EN}(hg:W.grownBy V y.ownBlock)(hl:∀k,a8.ownBlock=U k->y.ownBlock=U k\/W.heap.size<=k)(ho:V.ownsRow 0 103 21 a8 l.length (gk l)):DX g P {d with aX:=l} E a8 (V.setCell ⟨g,876,ab⟩ a8)/\bi g E y E a8 W (V.setCell ⟨g,876,ab⟩ a8):=by
 have hs:=h.gh;have g6:=h.nl.1;have Q3:a8.ownBlock≠U g:=fun e=>by
  rcases hl g e with q|q;.exact g6 q
  .omega
 have F:=(b4.set g 876 V a8).grown;have xy:bi g E y E a8 W (V.setCell ⟨g,876,ab⟩ a8):=by refine⟨F.os.trans hg.os,F.tape.trans hg.tape,F.output.trans hg.output,bL hg.size F.size,fun k z q h2 _=>?_,hl,fun m hm k z=> .inl z⟩;exact(F.block k (dk z hg.size) (fun e=>q (dG e))).trans (hg.block k z (fun e=>h2 e.symm))
 have am:∀m,m<3->∀k,(E m).ownBlock=U k->k<W.heap.size:=fun m hm k z=>((h.oM m hm).lt k z).2;refine⟨h.Pb xy ?_ ?_ ?_ ?_,xy⟩;.refine aao (h.mem.imp fun r L=>⟨(hg.block g hs (fun e=>g6 e.symm)).trans L.1,L.2⟩) _ (.inr (by omega)) _ (fun j hj M=>?_);exact akW _ _ _ _ _ _ hj M
 .exact pQ ho F Q3
 .intro m hm;refine pQ ((h.oM m hm).kept hg ?_) F (h.nl.2 m hm);cases hb:(E m).ownBlock with
   |none=>exact .inl J
   |some k=>exact .inr (fun e=>(h.mF m k hm hb).1 e.symm)
 .intro m k hm z;refine⟨fun e=>?_,(h.mF m k hm z).2⟩;rcases hl k e with q|q;.exact(h.mF m k hm z).1 q
  .have:=am m hm k z;omega
theorem DX.Br{g:Nat}{P:PV}{d:bC}{E:Nat->ag}{y:ag}{W:ac}(h:DX g P d E y W)(n:Nat)(u:n<3)(zt:Array ag)(hz:zt.size=31)(t:DT)(ht:t.bP=[])(H:∀j,j<31->zt.toList.getD j undef=cO t (ak ab 0 0) j):DX g P (d.put n t) (aO E n (ak ab 0 0)) y (W.setCells g (783+n*31) zt.toList)/\bi g E y (aO E n (ak ab 0 0)) y W (W.setCells g (783+n*31) zt.toList):=by
 have hzl:zt.toList.length=31:=by rw[JO,hz]
 obtain⟨r,L,_⟩:=h.mem;replace L:W.heap[g]?=U (.cells (VA 877 (Vr.fQ (LD g P d.T E y) r)) 80 (0,0)):=L;have F:W.grownBy (W.setCells g (783+n*31) zt.toList) (U g):=by rw[Vr.aqo 877 g 80 _ _ _ W L];exact Fg W g _
 have xy:bi g E y (aO E n (ak ab 0 0)) y W (W.setCells g (783+n*31) zt.toList):=by
  refine⟨F.os,F.tape,F.output,F.size,fun k z q h2 _=>F.block k z (fun e=>q (dG e)),fun _ h=> .inl h,fun m hm k z=>?_⟩;by_cases l5:m=n;.subst l5;rw[dN]at z;cases z
  .rw[ed _ _ l5]at z;exact .inl z
 refine⟨h.Pb xy ?_ ?_ ?_ ?_,xy⟩
 .refine ak0 h.mem _ (by omega) _ (fun j hj M=>?_);show kY P (aO d.T n t) (aO E n _) y j=_;rw[Vl _ _ _ _ _ _ _ _ hj M,hzl];by_cases dV:783+n*31<=j/\j<783+n*31+31/\n<3;.rw[if_pos dV,if_pos (by omega),H _ (by omega)]
  .rw[if_neg dV,if_neg (by omega)]
 .exact pQ h.cW F h.nl.1
 .intro m hm;show World.ownsRow _ 0 65 1 (aO E n _ m) (aO d.T n t m).bP.length (qf (aO d.T n t m).bP);by_cases l5:m=n;.subst l5;rw[dN,dN,ht];exact World.ownsRow_nil _ _ _ _
  .rw[ed _ _ l5,ed _ _ l5];exact pQ (h.oM m hm) F (h.nl.2 m hm)
 .intro m k hm z;by_cases l5:m=n;.subst l5;rw[dN]at z;cases z
  .rw[ed _ _ l5]at z;refine⟨(h.mF m k hm z).1,fun i hi bo=>?_⟩;by_cases dV:i=n;.subst dV;rw[dN];intro e;cases e
   .rw[ed _ _ dV];exact(h.mF m k hm z).2 i hi bo
theorem iK(d:bC)(n:Nat)(t:DT):(d.put n t).T n=t:=dN _ _ _
theorem Bk(d:bC)(n:Nat)(t ay:DT):(d.put n t).put n ay=d.put n ay:=by unfold bC.put;simp only[BI]
theorem DX.EG{g:Nat}{P:PV}{d:bC}{E:Nat->ag}{y:ag}{W:ac}{n:Nat}{t0:DT}(h:DX g P (d.put n t0) E y W)(j:Nat)(u:n<3)(hj:j<31)(v:ag)(t:DT)(F:t.bP=t0.bP)(H:∀k,cO t (E n) k=if k=j then v else cO t0 (E n) k):DX g P (d.put n t) E y (W.setCell ⟨g,783+n*31+j,ab⟩ v):=by have q:=h.wg n j u hj v t (by rw[iK];exact F) (fun k _=>by rw[iK];exact H k);rw[Bk]at q;exact q
theorem aeK(t:DT)(E:ag)(x k:Nat):cO {t with phase:=x} E k=if k=0 then I R x else cO t E k:=by
 by_cases h:k=0;.subst h;rfl
 .rw[if_neg h];unfold cO;simp only[if_neg h]
theorem aal(t:DT)(E:ag)(x k:Nat):cO {t with a6:=x} E k=if k=17 then I R x else cO t E k:=by
 by_cases h:k=17;.subst h;rfl
 .rw[if_neg h];unfold cO;simp only[if_neg h]
theorem Uy(t:DT)(E:ag)(i:Nat)(hi:i<4):cO t E (9+i)=I ah (t.dI i):=by rcases show i=0\/i=1\/i=2\/i=3 by omega with rfl|rfl|rfl|rfl<;>rfl
theorem OF(t:DT)(E:ag)(i:Nat)(hi:i<4):cO t E (13+i)=ad (bs (t.cn i)):=by rcases show i=0\/i=1\/i=2\/i=3 by omega with rfl|rfl|rfl|rfl<;>rfl
theorem mB(t:DT)(E:ag)(i:Nat)(hi:i<4):cO t E (18+i*3)=ad (t.aG i).bf/\cO t E (18+i*3+1)=I aj (t.aG i).ip/\cO t E (18+i*3+2)=I R (t.aG i).aB:=by rcases show i=0\/i=1\/i=2\/i=3 by omega with rfl|rfl|rfl|rfl<;>exact⟨J,J,J⟩
theorem B8{aE:Nat->Prop}{k:Nat}(z:k<31)(h0:aE 0)(q:aE 1)(h2:aE 2)(h3:aE 3)(h4:aE 4)(h5:aE 5)(h6:aE 6)(h7:aE 7)(h8:aE 8)(h9:aE 9)(Dy:aE 10)(Ei:aE 11)(eL:aE 12)(Pe:aE 13)(WW:aE 14)(h15:aE 15)(pO:aE 16)(XY:aE 17)(h18:aE 18)(h19:aE 19)(MG:aE 20)(h21:aE 21)(h22:aE 22)(h23:aE 23)(qe:aE 24)(Nl:aE 25)(h26:aE 26)(h27:aE 27)(h28:aE 28)(x8:aE 29)(h30:aE 30):aE k:=by match k,z with|0,_=>exact h0|1,_=>exact q|2,_=>exact h2|3,_=>exact h3|4,_=>exact h4|5,_=>exact h5|6,_=>exact h6|7,_=>exact h7|8,_=>exact h8|9,_=>exact h9|10,_=>exact Dy|11,_=>exact Ei|12,_=>exact eL|13,_=>exact Pe|14,_=>exact WW|15,_=>exact h15|16,_=>exact pO|17,_=>exact XY|18,_=>exact h18|19,_=>exact h19|20,_=>exact MG|21,_=>exact h21|22,_=>exact h22|23,_=>exact h23|24,_=>exact qe|25,_=>exact Nl|26,_=>exact h26|27,_=>exact h27|28,_=>exact h28|29,_=>exact x8|30,_=>exact h30|j+31,hj=>omega
theorem adW(t:DT)(E:ag)(i x:Nat)(hi:i<4)(k:Nat)(z:k<31):cO {t with dI:=aO t.dI i x} E k=if k=9+i then I ah x else cO t E k:=by rcases show i=0\/i=1\/i=2\/i=3 by omega with rfl|rfl|rfl|rfl<;>(refine B8 (aE:=fun k=>cO _ E k=if k=_ then _ else cO t E k) z ?_ ?_ ?_ ?_ ?_ ?_ ?_ ?_ ?_ ?_ ?_ ?_ ?_ ?_ ?_ ?_ ?_ ?_ ?_ ?_ ?_ ?_ ?_ ?_ ?_ ?_ ?_ ?_ ?_ ?_ ?_<;>rfl)
theorem ab0(t:DT)(E:ag)(i:Nat)(l:W8)(hi:i<4)(k:Nat)(z:k<31):cO {t with cn:=aO t.cn i l} E k=if k=13+i then ad (bs l)else cO t E k:=by rcases show i=0\/i=1\/i=2\/i=3 by omega with rfl|rfl|rfl|rfl<;>(refine B8 (aE:=fun k=>cO _ E k=if k=_ then _ else cO t E k) z ?_ ?_ ?_ ?_ ?_ ?_ ?_ ?_ ?_ ?_ ?_ ?_ ?_ ?_ ?_ ?_ ?_ ?_ ?_ ?_ ?_ ?_ ?_ ?_ ?_ ?_ ?_ ?_ ?_ ?_ ?_<;>rfl)
theorem ahc(t:DT)(E:ag)(i:Nat)(v:ByteArray)(hi:i<4)(k:Nat)(z:k<31):cO {t with aG:=aO t.aG i ⟨v,(t.aG i).ip,(t.aG i).aB⟩} E k=if k=18+i*3 then ad v else cO t E k:=by rcases show i=0\/i=1\/i=2\/i=3 by omega with rfl|rfl|rfl|rfl<;>(refine B8 (aE:=fun k=>cO _ E k=if k=_ then _ else cO t E k) z ?_ ?_ ?_ ?_ ?_ ?_ ?_ ?_ ?_ ?_ ?_ ?_ ?_ ?_ ?_ ?_ ?_ ?_ ?_ ?_ ?_ ?_ ?_ ?_ ?_ ?_ ?_ ?_ ?_ ?_ ?_<;>rfl)
theorem ad5(t:DT)(E:ag)(i x:Nat)(hi:i<4)(k:Nat)(z:k<31):cO {t with aG:=aO t.aG i ⟨(t.aG i).bf,x,(t.aG i).aB⟩} E k=if k=18+i*3+1 then I aj x else cO t E k:=by rcases show i=0\/i=1\/i=2\/i=3 by omega with rfl|rfl|rfl|rfl<;>(refine B8 (aE:=fun k=>cO _ E k=if k=_ then _ else cO t E k) z ?_ ?_ ?_ ?_ ?_ ?_ ?_ ?_ ?_ ?_ ?_ ?_ ?_ ?_ ?_ ?_ ?_ ?_ ?_ ?_ ?_ ?_ ?_ ?_ ?_ ?_ ?_ ?_ ?_ ?_ ?_<;>rfl)
theorem alR(t:DT)(E:ag)(i:Nat)(x:Int)(hi:i<4)(k:Nat)(z:k<31):cO {t with aG:=aO t.aG i ⟨(t.aG i).bf,(t.aG i).ip,x⟩} E k=if k=18+i*3+2 then I R x else cO t E k:=by rcases show i=0\/i=1\/i=2\/i=3 by omega with rfl|rfl|rfl|rfl<;>(refine B8 (aE:=fun k=>cO _ E k=if k=_ then _ else cO t E k) z ?_ ?_ ?_ ?_ ?_ ?_ ?_ ?_ ?_ ?_ ?_ ?_ ?_ ?_ ?_ ?_ ?_ ?_ ?_ ?_ ?_ ?_ ?_ ?_ ?_ ?_ ?_ ?_ ?_ ?_ ?_<;>rfl)
theorem DX.SF{g:Nat}{P:PV}{d:bC}{E:Nat->ag}{y:ag}{W:ac}(h:DX g P d E y W):fc P.oa P.cap P.p W:=h.iv W (fun _ _ _ _ _=>J) h.cF
theorem DX.sk{g:Nat}{P:PV}{d:bC}{E:Nat->ag}{y:ag}{W:ac}(h:DX g P d E y W)(n k:Nat)(u:n<3):DX g P (d.put n {d.T n with phase:=k}) E y (W.setCell ⟨g,783+n*31,ab⟩ (I R k)):=h.wg n 0 u (by omega) _ _ J fun j _=>aeK _ _ _ j
theorem DX.phase{g:Nat}{P:PV}{d:bC}{E:Nat->ag}{y:ag}{W:ac}(h:DX g P d E y W)(n:Nat)(u:n<3):W.cell? ⟨g,783+n*31,ab⟩=U (I R (d.T n).phase):=h.th n 0 u (by omega)
theorem DX.D4{g:Nat}{P:PV}{d:bC}{E:Nat->ag}{y:ag}{W:ac}(h:DX g P d E y W):W.cell? ⟨g,876,ab⟩=U y:=h.cell 876 (by omega) (.inr (by omega))
def kw(g:Nat)(P:PV)(d':bC)(E:Nat->ag)(y:ag)(W:ac)(e:Ending)(w':ac):Prop:=e=aq (az #[])/\∃sv' a8,DX g P d' sv' a8 w'/\bi g E y sv' a8 W w'
theorem kw.nF{g:Nat}{P:PV}{d':bC}{E X_:Nat->ag}{y Ut:ag}{W X:ac}{e:Ending}{w':ac}(hb:bi g E y X_ Ut W X)(h:kw g P d' X_ Ut X e w'):kw g P d' E y W e w':=by obtain⟨q,sv',a8,h2,h3⟩:=h;exact⟨q,sv',a8,h2,hb.trans h3⟩
end Go.Proofs.YtefdakbahplnbaaGreatDoor
namespace Go.Proofs.YtefdakbahplnbaaGreatDoor
open Go.RowKit
theorem aaJ{P:Program}{md:Region.Mode}{a_:Array Oper}{aE:Exit->Act->ac->Prop}{b6:Nat}{gz:Array Bool}{a:Act}{w:ac}{i j k:Nat}{o p B:Oper}(L:Region.ready md a_ gz=[i,j,k])(ho:a_.toList[i]?=U o)(hg:o.guard=ab)(hp:a_.toList[j]?=U p)(SA:p.guard=ab)(N:a_.toList[k]?=U B)(hgq:B.guard=ab)(h:∀K:Act->ac->Prop,(∀a w,wpAny P md a_ aE b6 (gz.setIfInBounds i true) a w->K a w)->Oper.wp P o a w K aE)(h2:∀K:Act->ac->Prop,(∀a w,wpAny P md a_ aE b6 (gz.setIfInBounds j true) a w->K a w)->Oper.wp P p a w K aE)(h3:∀K:Act->ac->Prop,(∀a w,wpAny P md a_ aE b6 (gz.setIfInBounds k true) a w->K a w)->Oper.wp P B a w K aE):wpAny P md a_ aE (b6+1) gz a w:=by
 refine wpAny_ready L (by simp) ?_;refine AllReady.cons (o:=o) (by simpa using ho) (fun K A=>?_) (AllReady.cons (o:=p) (by simpa using hp) (fun K A=>?_) (AllReady.cons (o:=B) (by simpa using N) (fun K A=>?_) AllReady.nil))
 .have hw:sF o (yielded a_ a.tmps)=true:=by simp[sF,hg]
  rw[if_pos hw];exact h K A
 .have hw:sF p (yielded a_ a.tmps)=true:=by simp[sF,SA]
  rw[if_pos hw];exact h2 K A
 .have hw:sF B (yielded a_ a.tmps)=true:=by simp[sF,hgq]
  rw[if_pos hw];exact h3 K A
end Go.Proofs.YtefdakbahplnbaaGreatDoor
namespace Go.Proofs.YtefdakbahplnbaaGreatDoor
open Go.RowKit Mm
theorem D0(t:DT)(E:ag):cO t E 1=I aj t.b'.ej/\cO t E 2=I aj t.b'.nr/\cO t E 3=I ah t.b'.a0/\cO t E 4=I ah t.b'.bR/\cO t E 5=I ah t.b'.a2/\cO t E 6=I ah t.b'.a3:=⟨J,J,J,J,J,J⟩
theorem Nc:(ae.info? 76).map (·.size)=U 31:=by kernel_rfl
def Hs:Array ag:=#[I R 0,I aj 0,I aj 0,I ah 0,I ah 0,I ah 0,I ah 0,I aj 0,I aj 0,I ah 0,I ah 0,I ah 0,I ah 0,ad ⟨#[]⟩,ad ⟨#[]⟩,ad ⟨#[]⟩,ad ⟨#[]⟩,I R 0,ad ⟨#[]⟩,I aj 0,I R 0,ad ⟨#[]⟩,I aj 0,I R 0,ad ⟨#[]⟩,I aj 0,I R 0,ad ⟨#[]⟩,I aj 0,I R 0,ak ab 0 0]
theorem adQ:∀j,j<31->Hs.toList.getD j undef=cO (tw 0) (ak ab 0 0) j:=fun j hj=>by refine B8 (aE:=fun j=>Hs.toList.getD j undef=cO (tw 0) (ak ab 0 0) j) hj ?_ ?_ ?_ ?_ ?_ ?_ ?_ ?_ ?_ ?_ ?_ ?_ ?_ ?_ ?_ ?_ ?_ ?_ ?_ ?_ ?_ ?_ ?_ ?_ ?_ ?_ ?_ ?_ ?_ ?_ ?_<;>rfl
theorem Zi:Hs.all (·.oneCell')=true:=by simp[Hs,Value.oneCell']
theorem ajT{o:Oper}{a:Act}{w:ac}(ty:TypeId)(parts:Array (Nat×Operand))(ho:o.op= .build ty parts){cells:Array ag}(M:ae.built ty (parts.map fun(i,x)=>(i,a.eval x)).toList=U cells):(execOp a.eval o).run ae w= .ok (.value (aw cells)) w:=by unfold execOp;simp only[ho,Sem.run_bind,run_build w ty _ cells M,Result.andThen_ok];rfl
theorem EO{o:Oper}{a:Act}{w:ac}(x0 x1 x2 x3 x4:Operand)(v0 v1 v2 v3 v4:ag)(ho:o.op= .build 103 #[(0,x0),(1,x1),(2,x2),(3,x3),(4,x4)])(h0:a.eval x0=v0)(q:a.eval x1=v1)(h2:a.eval x2=v2)(h3:a.eval x3=v3)(h4:a.eval x4=v4){cells:Array ag}(M:ae.built 103 [(0,v0),(1,v1),(2,v2),(3,v3),(4,v4)]=U cells):(execOp a.eval o).run ae w= .ok (.value (aw cells)) w:=ajT _ _ ho (by simpa[h0,q,h2,h3,h4]using M)
theorem Ah:(ae.info? 68).map (·.size)=U 6:=by kernel_rfl
theorem Jd:(ae.info? 73).map (·.size)=U 12:=by kernel_rfl
theorem DX.afj{g:Nat}{P:PV}{d:bC}{E:Nat->ag}{y:ag}{W:ac}(h:DX g P d E y W)(n:Nat)(u:n<3):W.rangeAt g (783+n*31+1) (bX (d.T n).b').toList:=fun j v hv=>by have hj:j<6:=(pb.1 hv).1;rw[show 783+n*31+1+j=783+n*31+(1+j)by omega,h.th n (1+j) u (by omega),<-hv];rcases show j=0\/j=1\/j=2\/j=3\/j=4\/j=5 by omega with rfl|rfl|rfl|rfl|rfl|rfl<;>rfl
def yC(t:DT):Prop:=t.bP.length<=4/\∀x∈t.bP,x<18446744073709551616
theorem QR(n aF:Nat)(aU:Int)(v:VS)(d:bC):gf n aF aU v d=bC.put ⟨d.T,(d.T n).bP.foldl jk d.mem,d.aX++[⟨aF,n,(d.T n).b',v,aU⟩]⟩ n (tw (if aF=3 then 6 else 0)):=rfl
theorem aeA(l:List Nat)(m:MS)(i:Nat)(hi:i<l.length):(l.take (i+1)).foldl jk m=jk ((l.take i).foldl jk m) l[i]:=by rw[List.take_add_one,List.foldl_append,cq hi];rfl
theorem akZ{W:ac}{v:ag}{l:List Nat}(h:W.ownsRow 0 65 1 v l.length (qf l)):∃o cap,v=ak o l.length cap/\∀i(hi:i<l.length),∃b,o=U ⟨b,0,ab⟩/\W.cell? ⟨b,i,ab⟩=U (I ah (l[i]:Nat)):=by
 rcases h.2 with⟨rfl,h0⟩|⟨b,cap,co,rfl,-,eV,-,-,-,lA⟩;.exact⟨ab,0,by rw[h0],fun i hi=>by omega⟩
 .refine⟨U ⟨b,0,ab⟩,cap,J,fun i hi=>⟨b,J,?_⟩⟩;rw[aT _ _ i _ _ _ eV];have hj:(qf l)[i]?=U (I ah (l[i]:Nat)):=by unfold qf;rw[List.getElem?_map,cq hi];rfl
  rw[<-lA,List.getElem?_take,if_pos (by omega)]at hj;simpa using hj
theorem DX.akG{g:Nat}{P:PV}{d:bC}{E:Nat->ag}{y:ag}{W:ac}(h:DX g P d E y W)(n:Nat)(u:n<3):∃o cap,W.cell? ⟨g,783+n*31+30,ab⟩=U (ak o (d.T n).bP.length cap)/\∀i(hi:i<(d.T n).bP.length),∃b,o=U ⟨b,0,ab⟩/\W.cell? ⟨b,i,ab⟩=U (I ah ((d.T n).bP[i]:Nat)):=by obtain⟨o,cap,q,h2⟩:=akZ (h.oM n u);refine⟨o,cap,?_,h2⟩;rw[h.th n 30 u (by omega),<-q];rfl
set_option maxHeartbeats 4000000 in set_option maxRecDepth 100000 in theorem OW{g:Nat}{P:PV}{d:bC}{E:Nat->ag}{y:ag}{W:ac}(n:Nat)(u:n<3)(aF:Nat)(aU:Int)(v:VS)(h:DX g P d E y W)(cQ:d.aX.length<=1000000)(im:yC (d.T n)):ap ae 112 #[av (U ⟨g,0,ab⟩),I R n,I R aF,I R aU,qv v] W (kw g P (gf n aF aU v d) E y W):=by
 have j1:(0:Int)<=n:=by omega
 have j2:(n:Int)<3:=by omega
 obtain⟨k,z⟩:=af (d.T n).b';have HX:=aa (h.au (ai W (.cells (eU v) 73)));obtain⟨r,L⟩:=af W.heap.size;have Ef:g≠r:=by rw[L];exact Nat.ne_of_lt h.gh
 obtain⟨X,hX⟩:=af (W.alloc (.cells (eU v) 73));have ce:X.heap[r]?=U (.cells (eU v) 73 (0,0)):=by rw[hX,L];exact a7 _ _
 rw[<-hX]at HX;have eV:X.drew.heap[r]?=U (.cells (eU v) 73 (0,0)):=ce;have nv:X.drew.rangeAt g (783+n*31+1) (bX k).toList:=by rw[z];exact(HX.out.au (Below.refl _ _).drew).afj n u
 have gF:=aa (show bi g E y E y W X by rw[hX];exact bi.bk E y (ai _ _));have tm:=HX.out.gh;have hrX:r<X.heap.size:=(bM.1 ce).1;have vn:X.drew.cell? ⟨g,876,ab⟩=U y:=HX.out.D4;have aiZ:X.drew.frozen? ⟨g,876,ab⟩=false:=HX.out.b5 _;unfold qv;obtain⟨vc,ja⟩:=af (eU v);obtain⟨kc,kV⟩:=af (bX k);have j9:vc.size=12:=by rw[ja];rfl
 have uA:kc.toList.length=6:=by rw[kV];rfl
 rw[<-ja]at hX eV ce;rw[<-kV]at nv;rw[<-ja];have HXX:=aa hX;obtain⟨eq,d8,dh,dD,dz⟩:=NC;obtain⟨aC,hL⟩:=af d.aX.length;rw[<-hL]at cQ;obtain⟨c1,hC⟩:=af (od aF n k v aU);have eO:=aa hC;have B3:ae.built 103 [(0,I R aF),(1,I R n),(2,aw kc),(3,aw vc),(4,I R aU)]=U c1:=by rw[hC,kV,ja];kernel_rfl
 have lZ:=fun W=>YK aF n k v aU W;rw[<-hC]at lZ;have oE:=aa (show∀ay∈c1.toList,ay.oneCell'=true by rw[hC];exact QY _ _ _ _ _);have eS:=aa (show c1.toList.length=1*21 by rw[hC];rfl);have lc:=aa (show(X.alloc (.cells c1 103)).drew.ownsRow 0 103 21 y aC (gk d.aX)by rw[hL];exact HX.out.cW.alloc _);have mX:=aa (show(X.alloc (.cells c1 103)).drew.heap[X.heap.size]?=U (.cells c1 103 (0,0))from a7 X _);have zn:(X.alloc (.cells c1 103)).drew.cell? ⟨g,876,ab⟩=U y:=ao (ai X (.cells c1 103)).drew HX.out.D4;have u0:Hid (∀w2:ac,(X.alloc (.cells c1 103)).drew.grownBy w2 y.ownBlock->w2.cell? ⟨g,876,ab⟩=U y/\w2.frozen? ⟨g,876,ab⟩=false):=aa (fun w2 bU=>by obtain⟨rr,jO,_⟩:=HX.out.mem;have hB:w2.heap[g]?=X.heap[g]?:=(bU.block g (by show g<(X.alloc _).heap.size;rw[bA];omega) (fun e=>HX.out.nl.1 e.symm)).trans ((ai X _).block g tm);exact⟨(dt hB 876).trans vn,cy _ _ 876 _ _ (hB.trans jO)⟩);have uu:Hid (∀(gg bS:Nat)(w2:ac),w2.ownsRow 0 103 21 (ak (U ⟨gg,0,ab⟩) (aC+1) bS) (aC+1) (gk d.aX++c1.toList)->(X.alloc (.cells c1 103)).drew.grownBy w2 y.ownBlock->(y.ownBlock=U gg\/gg=X.heap.size+1)->Hid (∃a8,DX g P {d with aX:=d.aX++[⟨aF,n,k,v,aU⟩]} E a8 (w2.setCell ⟨g,876,ab⟩ (ak (U ⟨gg,0,ab⟩) (aC+1) bS))/\bi g E y E a8 W (w2.setCell ⟨g,876,ab⟩ (ak (U ⟨gg,0,ab⟩) (aC+1) bS)))):=aa (fun gg bS w2 ho hg bE=>aa ⟨ak (U ⟨gg,0,ab⟩) (aC+1) bS,by
  have hm:=DX.Jz (l:=d.aX++[⟨aF,n,k,v,aU⟩]) (a8:=ak (U ⟨gg,0,ab⟩) (aC+1) bS) (HX.out.au (ai X (.cells c1 103)).drew) hg (fun b hb=>by
   simp only[Value.ownBlock,cm]at hb;subst hb;rcases bE with h|h;.exact .inl h
   .refine .inr ?_;rw[h];show(X.alloc _).heap.size<=_;rw[bA];exact Nat.le_refl _) (by rw[List.length_append,List.length_singleton,Lw,<-hL,show(gE ⟨aF,n,k,v,aU⟩)=c1 from hC.symm];exact ho);exact⟨hm.1,gF.out.trans ((bi.bk E y (ai X _).drew).trans hm.2)⟩⟩);have Bn:=aa z;have HR:=aa L;clear hX L h ce hL z hC ja kV;go_enter func112,ntmps112;go_wp2_with fail;rw[<-HXX.out,<-HR.out];clear HXX;go_cut[9](fun eG wc=>eG=av (U ⟨r,0,ab⟩)/\Hid (∃a8,DX g P {d with aX:=d.aX++[⟨aF,n,k,v,aU⟩]} E a8 wc/\bi g E y E a8 W wc));case first=>
  as_aux_lemma=>
   refine mj (by kernel_rfl) ?_;change wpAny _ _ _ _ _ _ _ (ll _);refine aW 0 (U 11) (av (U ⟨g,0,ab⟩)) ?_;try simp only[ar,LT]
   refine aW 1 (U 12) (av (U ⟨g,0,ab⟩)) ?_;try simp only[ar,LT]
   refine aW 2 (U 13) (av (U ⟨g,0,ab⟩)) ?_;try simp only[ar,LT]
   refine aW 3 (U 14) (av (U ⟨g,876,ab⟩)) ?_;try simp only[ar,LT]
   refine aW 5 (U 16) (I R aF) ?_;try simp only[ar,LT]
   refine aW 6 (U 17) (I R n) ?_;try simp only[ar,LT]
   refine aW 7 (U 18) (av (U ⟨g,0,ab⟩)) ?_;try simp only[ar,LT]
   refine aW 8 (U 19) (I R n) ?_;try simp only[ar,LT]
   refine aW 9 (U 20) (av (U ⟨g,0,ab⟩)) ?_;try simp only[ar,LT]
   refine aW 10 (U 21) (av (U ⟨g,783,ab⟩)) ?_;try simp only[ar,LT]
   refine aW 11 (U 22) (av (U ⟨g,783+n*31,ab⟩)) ?_;try simp only[ar,LT]
   refine aW 12 (U 23) (av (U ⟨g,783+n*31+1,ab⟩)) ?_;try simp only[ar,LT]
   refine aW 15 (U 26) (I R aU) ?_;try simp only[ar,LT]
   refine aaJ (i:=4) (j:=13) (k:=14) (by kernel_rfl) J J J J J J (fun K A=>?_) (fun K A=>?_) (fun K A=>?_)
   .go_simp;refine A _ _ ?_;clear A K;try simp only[ar,LT]
    refine iV (i:=13) (j:=14) (by kernel_rfl) J J J J (fun K A=>?_) (fun K A=>?_)
    .refine FQ 68 (.tmp 23) J g (783+n*31+1) J kc.toList _ nv underlying68 J (by rw[uA];exact Ah) ?_;rw[show kc.toList.toArray=kc from ze];refine A _ _ ?_;clear A K;try simp only[ar,LT]
     refine aR 14 fun K A=>?_;refine C0 73 (.tmp 9) J r J 73 vc (0,0) _ eV underlying73 J (by rw[j9];exact Jd) ?_;refine A _ _ ?_;clear A K;try simp only[ar,LT]
     refine DN 16 (U 27) (aw c1) ?_ ?_;.intro wx;exact EO (.tmp 16) (.tmp 17) (.tmp 24) (.tmp 25) (.tmp 26) (I R aF) (I R n) (aw kc) (aw vc) (I R aU) J J J J J J B3
     try simp only[ar,LT]
     refine aR 17 fun K A=>?_;refine vk 27 J J lZ ?_;refine A _ _ ?_;clear A K;try simp only[ar,LT]
     refine aR 18 fun K A=>?_;refine xn _ _ _ _ J 0 103 eq _ 21 192 underlying78 d8 dh dD dz J (by omega) y aC (gk d.aX) J lc.out ⟨X.heap.size,0,ab⟩ 1 1 c1.toList J eS.out (lS mX.out) oE.out (by omega) (by simp only[maxLen];omega) (by omega) (by omega) (X.heap.size+1) (by show(X.alloc _).heap.size=_;rw[bA]) ?_;intro gg bS w2 du bU bE d6;have HG:=aa (bQ du (bQ bU (bQ bE d6)));obtain⟨jT,j7⟩:=u0.out w2 bU;clear du bU bE d6;refine A _ _ ?_;clear A K;try simp only[ar,LT]
     refine aR 19 fun K A=>?_;go_simp;refine A _ _ ?_;clear A K;try simp only[ar,LT]
     refine aR 20 fun K A=>?_;go_simp;refine A _ _ ?_;clear A K;try simp only[ar,LT]
     refine aR 21 fun K A=>?_;go_simp;refine A _ _ ?_;clear A K;try simp only[ar,LT]
     refine dH (by kernel_rfl) ?_ _;go_wp2_with fail;go_meet;case rel=>exact⟨J,uu.out gg bS w2 HG.out.1 HG.out.2.1 HG.out.2.2.1⟩
    .refine C0 73 (.tmp 9) J r J 73 vc (0,0) _ eV underlying73 J (by rw[j9];exact Jd) ?_;refine A _ _ ?_;clear A K;try simp only[ar,LT]
     refine aR 13 fun K A=>?_;refine FQ 68 (.tmp 23) J g (783+n*31+1) J kc.toList _ nv underlying68 J (by rw[uA];exact Ah) ?_;rw[show kc.toList.toArray=kc from ze];refine A _ _ ?_;clear A K;try simp only[ar,LT]
     refine DN 16 (U 27) (aw c1) ?_ ?_;.intro wx;exact EO (.tmp 16) (.tmp 17) (.tmp 24) (.tmp 25) (.tmp 26) (I R aF) (I R n) (aw kc) (aw vc) (I R aU) J J J J J J B3
     try simp only[ar,LT]
     refine aR 17 fun K A=>?_;refine vk 27 J J lZ ?_;refine A _ _ ?_;clear A K;try simp only[ar,LT]
     refine aR 18 fun K A=>?_;refine xn _ _ _ _ J 0 103 eq _ 21 192 underlying78 d8 dh dD dz J (by omega) y aC (gk d.aX) J lc.out ⟨X.heap.size,0,ab⟩ 1 1 c1.toList J eS.out (lS mX.out) oE.out (by omega) (by simp only[maxLen];omega) (by omega) (by omega) (X.heap.size+1) (by show(X.alloc _).heap.size=_;rw[bA]) ?_;intro gg bS w2 du bU bE d6;have HG:=aa (bQ du (bQ bU (bQ bE d6)));obtain⟨jT,j7⟩:=u0.out w2 bU;clear du bU bE d6;refine A _ _ ?_;clear A K;try simp only[ar,LT]
     refine aR 19 fun K A=>?_;go_simp;refine A _ _ ?_;clear A K;try simp only[ar,LT]
     refine aR 20 fun K A=>?_;go_simp;refine A _ _ ?_;clear A K;try simp only[ar,LT]
     refine aR 21 fun K A=>?_;go_simp;refine A _ _ ?_;clear A K;try simp only[ar,LT]
     refine dH (by kernel_rfl) ?_ _;go_wp2_with fail;go_meet;case rel=>exact⟨J,uu.out gg bS w2 HG.out.1 HG.out.2.1 HG.out.2.2.1⟩
   .refine FQ 68 (.tmp 23) J g (783+n*31+1) J kc.toList _ nv underlying68 J (by rw[uA];exact Ah) ?_;rw[show kc.toList.toArray=kc from ze];refine A _ _ ?_;clear A K;try simp only[ar,LT]
    refine iV (i:=4) (j:=14) (by kernel_rfl) J J J J (fun K A=>?_) (fun K A=>?_)
    .go_simp;refine A _ _ ?_;clear A K;try simp only[ar,LT]
     refine aR 14 fun K A=>?_;refine C0 73 (.tmp 9) J r J 73 vc (0,0) _ eV underlying73 J (by rw[j9];exact Jd) ?_;refine A _ _ ?_;clear A K;try simp only[ar,LT]
     refine DN 16 (U 27) (aw c1) ?_ ?_;.intro wx;exact EO (.tmp 16) (.tmp 17) (.tmp 24) (.tmp 25) (.tmp 26) (I R aF) (I R n) (aw kc) (aw vc) (I R aU) J J J J J J B3
     try simp only[ar,LT]
     refine aR 17 fun K A=>?_;refine vk 27 J J lZ ?_;refine A _ _ ?_;clear A K;try simp only[ar,LT]
     refine aR 18 fun K A=>?_;refine xn _ _ _ _ J 0 103 eq _ 21 192 underlying78 d8 dh dD dz J (by omega) y aC (gk d.aX) J lc.out ⟨X.heap.size,0,ab⟩ 1 1 c1.toList J eS.out (lS mX.out) oE.out (by omega) (by simp only[maxLen];omega) (by omega) (by omega) (X.heap.size+1) (by show(X.alloc _).heap.size=_;rw[bA]) ?_;intro gg bS w2 du bU bE d6;have HG:=aa (bQ du (bQ bU (bQ bE d6)));obtain⟨jT,j7⟩:=u0.out w2 bU;clear du bU bE d6;refine A _ _ ?_;clear A K;try simp only[ar,LT]
     refine aR 19 fun K A=>?_;go_simp;refine A _ _ ?_;clear A K;try simp only[ar,LT]
     refine aR 20 fun K A=>?_;go_simp;refine A _ _ ?_;clear A K;try simp only[ar,LT]
     refine aR 21 fun K A=>?_;go_simp;refine A _ _ ?_;clear A K;try simp only[ar,LT]
     refine dH (by kernel_rfl) ?_ _;go_wp2_with fail;go_meet;case rel=>exact⟨J,uu.out gg bS w2 HG.out.1 HG.out.2.1 HG.out.2.2.1⟩
    .refine C0 73 (.tmp 9) J r J 73 vc (0,0) _ eV underlying73 J (by rw[j9];exact Jd) ?_;refine A _ _ ?_;clear A K;try simp only[ar,LT]
     refine DN 16 (U 27) (aw c1) ?_ ?_;.intro wx;exact EO (.tmp 16) (.tmp 17) (.tmp 24) (.tmp 25) (.tmp 26) (I R aF) (I R n) (aw kc) (aw vc) (I R aU) J J J J J J B3
     try simp only[ar,LT]
     refine iV (i:=4) (j:=17) (by kernel_rfl) J J J J (fun K A=>?_) (fun K A=>?_)
     .go_simp;refine A _ _ ?_;clear A K;try simp only[ar,LT]
      refine aR 17 fun K A=>?_;refine vk 27 J J lZ ?_;refine A _ _ ?_;clear A K;try simp only[ar,LT]
      refine aR 18 fun K A=>?_;refine xn _ _ _ _ J 0 103 eq _ 21 192 underlying78 d8 dh dD dz J (by omega) y aC (gk d.aX) J lc.out ⟨X.heap.size,0,ab⟩ 1 1 c1.toList J eS.out (lS mX.out) oE.out (by omega) (by simp only[maxLen];omega) (by omega) (by omega) (X.heap.size+1) (by show(X.alloc _).heap.size=_;rw[bA]) ?_;intro gg bS w2 du bU bE d6;have HG:=aa (bQ du (bQ bU (bQ bE d6)));obtain⟨jT,j7⟩:=u0.out w2 bU;clear du bU bE d6;refine A _ _ ?_;clear A K;try simp only[ar,LT]
      refine aR 19 fun K A=>?_;go_simp;refine A _ _ ?_;clear A K;try simp only[ar,LT]
      refine aR 20 fun K A=>?_;go_simp;refine A _ _ ?_;clear A K;try simp only[ar,LT]
      refine aR 21 fun K A=>?_;go_simp;refine A _ _ ?_;clear A K;try simp only[ar,LT]
      refine dH (by kernel_rfl) ?_ _;go_wp2_with fail;go_meet;case rel=>exact⟨J,uu.out gg bS w2 HG.out.1 HG.out.2.1 HG.out.2.2.1⟩
     .refine vk 27 J J lZ ?_;refine A _ _ ?_;clear A K;try simp only[ar,LT]
      refine aR 4 fun K A=>?_;go_simp;refine A _ _ ?_;clear A K;try simp only[ar,LT]
      refine aR 18 fun K A=>?_;refine xn _ _ _ _ J 0 103 eq _ 21 192 underlying78 d8 dh dD dz J (by omega) y aC (gk d.aX) J lc.out ⟨X.heap.size,0,ab⟩ 1 1 c1.toList J eS.out (lS mX.out) oE.out (by omega) (by simp only[maxLen];omega) (by omega) (by omega) (X.heap.size+1) (by show(X.alloc _).heap.size=_;rw[bA]) ?_;intro gg bS w2 du bU bE d6;have HG:=aa (bQ du (bQ bU (bQ bE d6)));obtain⟨jT,j7⟩:=u0.out w2 bU;clear du bU bE d6;refine A _ _ ?_;clear A K;try simp only[ar,LT]
      refine aR 19 fun K A=>?_;go_simp;refine A _ _ ?_;clear A K;try simp only[ar,LT]
      refine aR 20 fun K A=>?_;go_simp;refine A _ _ ?_;clear A K;try simp only[ar,LT]
      refine aR 21 fun K A=>?_;go_simp;refine A _ _ ?_;clear A K;try simp only[ar,LT]
      refine dH (by kernel_rfl) ?_ _;go_wp2_with fail;go_meet;case rel=>exact⟨J,uu.out gg bS w2 HG.out.1 HG.out.2.1 HG.out.2.2.1⟩
   .refine C0 73 (.tmp 9) J r J 73 vc (0,0) _ eV underlying73 J (by rw[j9];exact Jd) ?_;refine A _ _ ?_;clear A K;try simp only[ar,LT]
    refine iV (i:=4) (j:=13) (by kernel_rfl) J J J J (fun K A=>?_) (fun K A=>?_)
    .go_simp;refine A _ _ ?_;clear A K;try simp only[ar,LT]
     refine aR 13 fun K A=>?_;refine FQ 68 (.tmp 23) J g (783+n*31+1) J kc.toList _ nv underlying68 J (by rw[uA];exact Ah) ?_;rw[show kc.toList.toArray=kc from ze];refine A _ _ ?_;clear A K;try simp only[ar,LT]
     refine DN 16 (U 27) (aw c1) ?_ ?_;.intro wx;exact EO (.tmp 16) (.tmp 17) (.tmp 24) (.tmp 25) (.tmp 26) (I R aF) (I R n) (aw kc) (aw vc) (I R aU) J J J J J J B3
     try simp only[ar,LT]
     refine aR 17 fun K A=>?_;refine vk 27 J J lZ ?_;refine A _ _ ?_;clear A K;try simp only[ar,LT]
     refine aR 18 fun K A=>?_;refine xn _ _ _ _ J 0 103 eq _ 21 192 underlying78 d8 dh dD dz J (by omega) y aC (gk d.aX) J lc.out ⟨X.heap.size,0,ab⟩ 1 1 c1.toList J eS.out (lS mX.out) oE.out (by omega) (by simp only[maxLen];omega) (by omega) (by omega) (X.heap.size+1) (by show(X.alloc _).heap.size=_;rw[bA]) ?_;intro gg bS w2 du bU bE d6;have HG:=aa (bQ du (bQ bU (bQ bE d6)));obtain⟨jT,j7⟩:=u0.out w2 bU;clear du bU bE d6;refine A _ _ ?_;clear A K;try simp only[ar,LT]
     refine aR 19 fun K A=>?_;go_simp;refine A _ _ ?_;clear A K;try simp only[ar,LT]
     refine aR 20 fun K A=>?_;go_simp;refine A _ _ ?_;clear A K;try simp only[ar,LT]
     refine aR 21 fun K A=>?_;go_simp;refine A _ _ ?_;clear A K;try simp only[ar,LT]
     refine dH (by kernel_rfl) ?_ _;go_wp2_with fail;go_meet;case rel=>exact⟨J,uu.out gg bS w2 HG.out.1 HG.out.2.1 HG.out.2.2.1⟩
    .refine FQ 68 (.tmp 23) J g (783+n*31+1) J kc.toList _ nv underlying68 J (by rw[uA];exact Ah) ?_;rw[show kc.toList.toArray=kc from ze];refine A _ _ ?_;clear A K;try simp only[ar,LT]
     refine DN 16 (U 27) (aw c1) ?_ ?_;.intro wx;exact EO (.tmp 16) (.tmp 17) (.tmp 24) (.tmp 25) (.tmp 26) (I R aF) (I R n) (aw kc) (aw vc) (I R aU) J J J J J J B3
     try simp only[ar,LT]
     refine iV (i:=4) (j:=17) (by kernel_rfl) J J J J (fun K A=>?_) (fun K A=>?_)
     .go_simp;refine A _ _ ?_;clear A K;try simp only[ar,LT]
      refine aR 17 fun K A=>?_;refine vk 27 J J lZ ?_;refine A _ _ ?_;clear A K;try simp only[ar,LT]
      refine aR 18 fun K A=>?_;refine xn _ _ _ _ J 0 103 eq _ 21 192 underlying78 d8 dh dD dz J (by omega) y aC (gk d.aX) J lc.out ⟨X.heap.size,0,ab⟩ 1 1 c1.toList J eS.out (lS mX.out) oE.out (by omega) (by simp only[maxLen];omega) (by omega) (by omega) (X.heap.size+1) (by show(X.alloc _).heap.size=_;rw[bA]) ?_;intro gg bS w2 du bU bE d6;have HG:=aa (bQ du (bQ bU (bQ bE d6)));obtain⟨jT,j7⟩:=u0.out w2 bU;clear du bU bE d6;refine A _ _ ?_;clear A K;try simp only[ar,LT]
      refine aR 19 fun K A=>?_;go_simp;refine A _ _ ?_;clear A K;try simp only[ar,LT]
      refine aR 20 fun K A=>?_;go_simp;refine A _ _ ?_;clear A K;try simp only[ar,LT]
      refine aR 21 fun K A=>?_;go_simp;refine A _ _ ?_;clear A K;try simp only[ar,LT]
      refine dH (by kernel_rfl) ?_ _;go_wp2_with fail;go_meet;case rel=>exact⟨J,uu.out gg bS w2 HG.out.1 HG.out.2.1 HG.out.2.2.1⟩
     .refine vk 27 J J lZ ?_;refine A _ _ ?_;clear A K;try simp only[ar,LT]
      refine aR 4 fun K A=>?_;go_simp;refine A _ _ ?_;clear A K;try simp only[ar,LT]
      refine aR 18 fun K A=>?_;refine xn _ _ _ _ J 0 103 eq _ 21 192 underlying78 d8 dh dD dz J (by omega) y aC (gk d.aX) J lc.out ⟨X.heap.size,0,ab⟩ 1 1 c1.toList J eS.out (lS mX.out) oE.out (by omega) (by simp only[maxLen];omega) (by omega) (by omega) (X.heap.size+1) (by show(X.alloc _).heap.size=_;rw[bA]) ?_;intro gg bS w2 du bU bE d6;have HG:=aa (bQ du (bQ bU (bQ bE d6)));obtain⟨jT,j7⟩:=u0.out w2 bU;clear du bU bE d6;refine A _ _ ?_;clear A K;try simp only[ar,LT]
      refine aR 19 fun K A=>?_;go_simp;refine A _ _ ?_;clear A K;try simp only[ar,LT]
      refine aR 20 fun K A=>?_;go_simp;refine A _ _ ?_;clear A K;try simp only[ar,LT]
      refine aR 21 fun K A=>?_;go_simp;refine A _ _ ?_;clear A K;try simp only[ar,LT]
      refine dH (by kernel_rfl) ?_ _;go_wp2_with fail;go_meet;case rel=>exact⟨J,uu.out gg bS w2 HG.out.1 HG.out.2.1 HG.out.2.2.1⟩
 case rest=>
  as_aux_lemma=>
   obtain⟨rfl,G⟩:=hcut;obtain⟨a8,hD,hF⟩:=G.out;obtain⟨se,us⟩:=af (d.T n).bP;obtain⟨Mi,SE⟩:=af (d.aX++[⟨aF,n,k,v,aU⟩]);obtain⟨L1,wf⟩:=af se.length;have HD:Hid (DX g P ⟨d.T,(se.take 0).foldl jk d.mem,Mi⟩ E a8 wc):=aa (by rw[SE];exact hD);have HF:=aa hF;have iq:=aa us;have Ct:=aa wf;have Ul:=aa im.2;have hL4:L1<=4:=by rw[wf,us];exact im.1
   have j3:=aa (show gf n aF aU v d=bC.put ⟨d.T,se.foldl jk d.mem,Mi⟩ n (tw (if aF=3 then 6 else 0))by rw[us,SE,Bn.out];exact QR _ _ _ _ _);clear hD hF G us SE wf eV nv j9 uA B3 vn aiZ zn u0 uu lc mX oE eS lZ HX gF d8 dh dD dz im eO Ef tm hrX HR;go_wp2_with fail;go_loopw[10](fun aL w'=>∃i:Nat,i<=L1/\aL=I R i/\Hid (DX g P ⟨d.T,(se.take i).foldl jk d.mem,Mi⟩ E a8 w')/\Hid (bi g E y E a8 W w'))(fun aL _=>L1-(intOf aL).toNat);case atStart=>exact⟨0,by omega,J,HD,HF⟩
   case round=>
    obtain⟨i,hi,rfl,G,HG⟩:=hrel;clear HD HF;obtain⟨o,cap,OC,cX⟩:=G.out.akG n u;simp only at OC cX;rw[<-iq.out,<-Ct.out]at OC;by_cases am:i<L1
    .as_aux_lemma=>
      have Ol:i<se.length:=by rw[<-Ct.out];exact am
      have zG:i<(d.T n).bP.length:=by rw[<-iq.out];exact Ol
      obtain⟨b,rfl,aic⟩:=cX i zG;obtain⟨a,ha⟩:=af ((d.T n).bP[i]);have M6:a<18446744073709551616:=by rw[ha];exact Ul.out _ (List.getElem_mem _)
      rw[<-ha]at aic;have fz:=aa (show(se.take (i+1)).foldl jk d.mem=jk ((se.take i).foldl jk d.mem) a by rw[aeA _ _ _ Ol,ha];simp only[iq.out]);have k1:(0:Int)<=i:=by omega
      have k2:(i:Int)<L1:=by omega
      replace G:=aa (G.out.au (Below.refl _ wr).drew);replace HG:=aa (HG.out.trans (bi.bk E a8 (Below.refl _ wr).drew));obtain⟨m0,og⟩:=af ((se.take i).foldl jk d.mem);rw[<-og]at G fz;have HM:=fun X(h:Vr.fD (LD g P d.T E a8) m0 X)=>(show ap ae 154 #[av (U ⟨g,3,ab⟩),I ah a] X fun e w'=>(∃v,e=aq v)/\Vr.fD (LD g P d.T E a8) (jk m0 a) w'/\X.grownBy w' (U g)from Vr.an3 h a M6);clear ha og cX M6 iq Ct Ol zG;go_wp2_with fail;refine mj (by kernel_rfl) ?_;change wpAny _ _ _ _ _ _ _ (ll _);refine aW 0 (U 44) (av (U ⟨g,0,ab⟩)) ?_;try simp only[ar,LT]
      refine aW 1 (U 45) (av (U ⟨g,0,ab⟩)) ?_;try simp only[ar,LT]
      refine aW 2 (U 46) (av (U ⟨g,3,ab⟩)) ?_;try simp only[ar,LT]
      refine aW 3 (U 47) (av (U ⟨g,0,ab⟩)) ?_;try simp only[ar,LT]
      refine aW 4 (U 48) (I R n) ?_;try simp only[ar,LT]
      refine aW 5 (U 49) (av (U ⟨g,0,ab⟩)) ?_;try simp only[ar,LT]
      refine aW 6 (U 50) (av (U ⟨g,783,ab⟩)) ?_;try simp only[ar,LT]
      refine aW 7 (U 51) (av (U ⟨g,783+n*31,ab⟩)) ?_;try simp only[ar,LT]
      refine aW 8 (U 52) (av (U ⟨g,783+n*31+30,ab⟩)) ?_;try simp only[ar,LT]
      refine aW 10 (U 54) (I R i) ?_;try simp only[ar,LT]
      refine aR 9 fun K A=>?_;go_simp;refine A _ _ ?_;clear A K;try simp only[ar,LT]
      refine aR 11 fun K A=>?_;go_simp;refine A _ _ ?_;clear A K;try simp only[ar,LT]
      refine aR 12 fun K A=>?_;go_simp;refine A _ _ ?_;clear A K;try simp only[ar,LT]
      refine aR 13 fun K A=>?_;refine Gl.lf 154 #[av (U ⟨g,3,ab⟩),I ah a] (by kernel_rfl) (HM _ G.out.mem) ?_;rintro e w1⟨⟨v1,rfl⟩,nu,sM⟩;have HD:=aa (G.out.me nu sM);have HF:=aa (HG.out.trans (bi.grown E a8 sM));clear nu sM;refine⟨_,J,A _ _ ?_⟩;clear A K;try simp only[ar,LT]
      refine dH (by kernel_rfl) ?_ _;rw[<-fz.out]at HD;go_wp2;go_round;case rel=>first|exact⟨i+1,by omega,by go_num,HD,HF⟩|exact⟨i+1,by omega,by omega,HD,HF⟩
      case measure=>simp[intOf];omega
    .as_aux_lemma=>
      have hiL:i=L1:=by omega
      rw[show(se.take i).foldl jk d.mem=se.foldl jk d.mem by rw[hiL,Ct.out,List.take_length]]at G;have uE:¬(i:Int)<L1:=by omega
      obtain⟨d1,u9⟩:∃d1:bC,d1=⟨d.T,se.foldl jk d.mem,Mi⟩:=⟨_,J⟩;rw[<-u9]at G j3;clear hiL u9 cX iq Ct Ul am;obtain⟨zt,fC⟩:=af Hs;have da:=aa fC;have sn:=G.out.Br n u zt (by rw[fC];rfl) (tw 0) J (fun j hj=>by rw[fC];exact adQ j hj);have ik:=aa sn.1;have gN:=aa (HG.out.trans sn.2);clear fC sn;by_cases iw:aF=3
      .have k3:(aF:Int)=3:=by omega
       have b3:((aF:Int)==3)=true:=by simpa using k3
       have oG:=aa (ik.out.sk n 6 u);rw[if_pos iw]at j3;have OY:=ik.out.phase n u;have QI:=ik.out.b5 (783+n*31);clear iw;go_wp2_with(first|(refine tS J 76 _ J (U 60) J zt (by rw[da.out];kernel_rfl) ?_)|(refine sK (P:=ae) J 76 _ _ J g (783+n*31) zt J J (by intro j hj;exact⟨by rw[G.out.cell _ (by have Su:j<31:=(by rw[da.out]at hj;exact hj);omega) (.inr (by omega))];rfl,G.out.b5 _⟩) (by rw[da.out];exact Nc) (by rw[da.out];exact Zi) ?_));go_end0;refine⟨J,_,a8,?_,gN.out.trans (bi.set _ a8 _ _ _)⟩;rw[j3.out];have:=oG.out;rwa[iK,Bk,show({tw 0 with phase:=6}:DT)=tw 6 from J]at this
      .have k3:¬(aF:Int)=3:=by omega
       have b3:((aF:Int)==3)=false:=by simpa using k3
       rw[if_neg iw]at j3;clear iw;go_wp2_with(first|(refine tS J 76 _ J (U 60) J zt (by rw[da.out];kernel_rfl) ?_)|(refine sK (P:=ae) J 76 _ _ J g (783+n*31) zt J J (by intro j hj;exact⟨by rw[G.out.cell _ (by have Su:j<31:=(by rw[da.out]at hj;exact hj);omega) (.inr (by omega))];rfl,G.out.b5 _⟩) (by rw[da.out];exact Nc) (by rw[da.out];exact Zi) ?_));go_end0;refine⟨J,_,a8,?_,gN.out⟩;rw[j3.out];exact ik.out
theorem afy{nr j:Nat}(hj:j<4)(z:2<=a1 nr j):ji nr j=j:=by have r4:tX 4=[0,1,2,3]:=J;rcases show j=0\/j=1\/j=2\/j=3 by omega with rfl|rfl|rfl|rfl<;>simp[ji,r4,T5,z]
theorem ado{nr j:Nat}(hj:j<4)(z:¬2<=a1 nr j):ji nr j=ji nr (j+1):=by
 have r4:tX 4=[0,1,2,3]:=J;have uI:a1 nr j<2:=by omega
 rcases show j=0\/j=1\/j=2\/j=3 by omega with rfl|rfl|rfl|rfl<;>simp[ji,r4,T5,z]
theorem akk(nr:Nat):ji nr 4=4:=rfl
set_option maxHeartbeats 1000000 in set_option maxRecDepth 20000 in theorem YQ(c:KL)(H:c.nr<=8)(i:Nat)(hi:i<=4)(W:ac):ap ae 79 #[cR c,I R i] W fun e w'=>e=aq (I R (ji c.nr i:Nat))/\Below W.heap.size W w':=by
 obtain⟨V,hV,hB,jt,hx⟩:=eN W (bX c) 68;have c1:=hx 1;obtain⟨nr,b0⟩:=af c.nr;unfold cR bX;unfold bX at hV hx c1;simp only[List.getElem?_toArray,List.getElem?_cons_zero,List.getElem?_cons_succ]at c1;rw[<-b0]at H c1;have S:=aa hB;have n1:(nr:Int)<100:=by omega
 have n2:¬(100:Int)<nr:=by omega
 have vM:IntKind.wrap R (nr:Int)=nr:=by rw[IntKind.wrap_i64]<;>omega
 have om:min (nr:Int) 100=nr:=by omega
 have HK:=fun k z w=>wC nr k (by omega) z w;rw[<-b0];clear hx hB;go_enter func79,ntmps79;go_wp2;rw[<-b0]at hV⊢;rw[<-hV];clear hV b0;go_loopw[1](fun aL w'=>∃j:Nat,j<=4/\aL=I R j/\w'=V/\Hid (ji nr j=ji nr i))(fun aL _=>4-(intOf aL).toNat);case atStart=>exact⟨i,hi,J,J,aa J⟩
 case round=>
  obtain⟨j,hj,rfl,rfl,HN⟩:=hrel;by_cases am:j<4
  .have hl:(j:Int)<4:=by omega
   have qr:=fun w=>HK j am w;obtain⟨kd,fg⟩:=af (a1 nr j);simp only[<-fg]at qr;by_cases z:2<=kd
   .have uI:(1:Int)<kd:=by omega
    have HV:=aa (show ji nr i=j by rw[<-HN.out];exact afy am (by rw[<-fg];exact z));clear fg;go_wp2_with(go_at_call 47;refine(qr _).mono ?_;rintro e w'⟨rfl,hw⟩;rw[hw];clear hw w');go_ret;exact⟨by rw[HV.out];rfl,S.out⟩
   .have uI:¬(1:Int)<kd:=by omega
    have HV:=aa (show ji nr (j+1)=ji nr i by rw[<-HN.out];exact(ado am (by rw[<-fg];exact z)).symm);clear fg;go_wp2_with(go_at_call 47;refine(qr _).mono ?_;rintro e w'⟨rfl,hw⟩;rw[hw];clear hw w');go_round;case rel=>exact⟨j+1,by omega,by go_num,trivial,HV⟩
    case measure=>simp[intOf];omega
  .have hl:¬(j:Int)<4:=by omega
   have h4:j=4:=by omega
   have HV:=aa (show ji nr i=4 by rw[<-HN.out,h4];exact akk nr);go_wp2;go_ret;exact⟨by rw[HV.out];rfl,S.out⟩
end Go.Proofs.YtefdakbahplnbaaGreatDoor
