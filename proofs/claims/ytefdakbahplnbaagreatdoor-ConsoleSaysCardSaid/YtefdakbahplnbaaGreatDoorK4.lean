/- The bits of a net: masks as remainders; mask, bit. -/
import Derived.Test.YtefdakbahplnbaaGreatDoorK1
import Derived.Laws.BitsAllLaws
import Derived.Laws.Tables
import Derived.Laws.CopyOwn
import Derived.Laws.CopyRow
import Derived.Lib.BufferWrite
open Go.Proofs.Tryz
open Array renaming ext_getElem?->vB
open Bool renaming and_eq_false_iff->FG,eq_iff_iff->fs
open Go renaming Calls->ap,Oper->bz,Value->ag,World->ac,run_underlying->sJ,wpList_plain->vI
open Go.Ending renaming returned->aq
open Go.IntKind renaming i64->R,u64->ah,u8->aM
open Go.Lib renaming byteCells->sI
open Go.Proofs.Tryz renaming prog->ae
open Go.Result renaming andThen->tQ
open Go.Value renaming bool->aH,iface->b8,int->I,pointer->av,slice->ak,tuple->az
open List renaming append_assoc->y8,getElem?_append_left->vG,getElem?_append_right->vF,getElem?_eq_getElem->cq,length_append->cl,length_take->nJ
open Nat renaming add_zero->po,le_refl->aA,min->xm,pow_le_pow_right->FF,testBit_mul_two_pow->ao6
open Option renaming none->ab,some->U
namespace Go.Proofs.YtefdakbahplnbaaGreatDoor
open Go.RowKit
def cA(b:Nat):Nat:=2^(32-b)
def pH(b:Nat):Nat:=4294967296-cA b
theorem IC(b:Nat):1<=cA b:=Nat.one_le_two_pow
theorem abh(b:Nat):cA b<=4294967296:=by unfold cA;exact FF (n:=2) (j:=32) (by decide) (by omega)
theorem Wd(b:Nat):pH b<4294967296:=by have:=IC b;unfold pH;omega
theorem aix(x b:Nat):x&&&(4294967295-pH b)=x%cA b:=by have h:=abh b;have q:=IC b;rw[show 4294967295-pH b=cA b-1 by unfold pH;omega];exact Nat.and_two_pow_sub_one_eq_mod x _
theorem acX(x b:Nat)(hx:x<4294967296)(hb:b<=32):x&&&pH b=x/cA b*cA b:=by
 have e:pH b=(2^b-1)*2^(32-b):=by unfold pH cA;rw[Nat.sub_mul,<-Nat.pow_add,show b+(32-b)=32 by omega,Nat.one_mul]
 rw[e];unfold cA;apply Nat.eq_of_testBit_eq;intro i;rw[Nat.testBit_and,ao6,ao6,Nat.testBit_two_pow_sub_one,Nat.testBit_div_two_pow];by_cases hi:32-b<=i
 .rw[show i-(32-b)+(32-b)=i by omega];by_cases h2:i-(32-b)<b;.simp[hi,h2]
  .have:x.testBit i=false:=Nat.testBit_lt_two_pow (Nat.lt_of_lt_of_le hx (FF (n:=2) (i:=32) (by decide) (by omega)));simp[hi,h2,this]
 .simp[hi]
theorem B2(b:Nat)(hb:b<=32)(w:ac):ap ae 176 #[I R b] w fun e w'=>e=aq (I .u32 (pH b))/\w'=w:=by
 go_enter func176,ntmps176;go_wp2;go_ret;refine⟨?_,J⟩;have er:((2:Int)^(32-b))=(cA b:Int):=by unfold cA;simp
 have q:=IC b;have h2:=abh b;refine ia ?_;rw[er];unfold pH;omega
theorem Ej(ip i:Nat)(bt:ip<4294967296)(hi:i<=31)(w:ac):ap ae 111 #[I .u32 ip,I R i] w fun e w'=>e=aq (aH (ip/2^(31-i)%2==1))/\w'=w:=by
 go_enter func111,ntmps111;go_wp2;go_ret;refine⟨?_,J⟩;have er:((ip:Int)/2^(31-i))=((ip/2^(31-i):Nat):Int):=by simp
 have hl:ip/2^(31-i)<4294967296:=Nat.lt_of_le_of_lt (Nat.div_le_self _ _) bt;refine gm ?_;rw[er,show(1:Int)=((1:Nat):Int)from J,u32_and_nat _ 1 hl (by decide),nat_mask1,fs];simp;omega
end Go.Proofs.YtefdakbahplnbaaGreatDoor
namespace Go.Proofs.YtefdakbahplnbaaGreatDoor.Bp
end Go.Proofs.YtefdakbahplnbaaGreatDoor.Bp
namespace Go.Proofs.YtefdakbahplnbaaGreatDoor.Mm
open Go.Proofs.YtefdakbahplnbaaGreatDoor.Bp
open Go.RowKit
def rH(n:Nat)(f:Nat->ag):Array ag:=Array.ofFn (n:=n) fun i=>f i
def VA(n:Nat)(f:Nat->ag):Array ag:=if h:n=0 then#[]else(VA (n-1) f).push (f (n-1))
theorem yV(n:Nat)(f:Nat->ag):VA n f=rH n f:=by
 induction n with
  |zero=>rw[VA];simp[rH]
  |succ n ih=>
   rw[VA];simp only[Nat.add_one_ne_zero,dite_false,Nat.add_sub_cancel,ih];apply vB;intro i;rw[Array.getElem?_push];have hz:(rH n f).size=n:=by simp[rH]
   rw[hz];by_cases hi:i=n;.subst hi;simp[rH]
   .rw[if_neg hi];by_cases hl:i<n;.simp[rH,hl,show i<n+1 by omega]
    .simp[rH,hl,show¬i<n+1 by omega]
def e0(f:Nat->ag)(i:Nat)(v:ag):Nat->ag:=fun j=>if j=i then v else f j
theorem l7(n:Nat)(f:Nat->ag):(VA n f).size=n:=by rw[yV];simp[rH]
theorem km(n:Nat)(f:Nat->ag)(i:Nat)(h:i<n):(VA n f)[i]?=U (f i):=by rw[yV];simp[rH,h]
theorem DF(n:Nat)(f:Nat->ag)(i:Nat)(h:¬i<n):(VA n f)[i]?=ab:=by rw[yV];simp[rH,h]
theorem Bz(n:Nat)(f g:Nat->ag)(h:∀i,i<n->f i=g i):VA n f=VA n g:=by
 apply vB;intro j;by_cases hj:j<n;.rw[km n f j hj,km n g j hj,h j hj]
 .rw[DF n f j hj,DF n g j hj]
theorem qu(n:Nat)(f:Nat->ag)(i:Nat)(v:ag):(VA n f).setIfInBounds i v=VA n (e0 f i v):=by
 apply vB;intro j;rw[Array.getElem?_setIfInBounds];by_cases hj:j<n
 .rw[km n f j hj,km n _ j hj,l7];by_cases h:i=j;.subst h;simp[e0,hj]
  .have h':¬j=i:=fun e=>h e.symm;simp[h,h',e0]
 .rw[DF n f j hj,DF n _ j hj,l7];by_cases h:i=j;.subst h;simp[hj]
  .simp[h]
structure MS where
 ei:Nat->Nat
 rd:Nat->Bool
 wt:Nat->Bool
def fm(m:MS)(i:Nat):ag:=if i%66<64 then I aM (m.ei (i/66*64+i%66))else if i%66=64 then aH (m.rd (i/66))else aH (m.wt (i/66))
theorem al4(m:MS)(n j:Nat)(hj:j<64):fm m (n*66+j)=I aM (m.ei (n*64+j)):=by unfold fm;rw[if_pos (by omega),show(n*66+j)/66=n by omega,show(n*66+j)%66=j by omega]
theorem VN(m:MS)(n:Nat):fm m (n*66+64)=aH (m.rd n):=by unfold fm;rw[if_neg (by omega),if_pos (by omega),show(n*66+64)/66=n by omega]
theorem Yl(m:MS)(n:Nat):fm m (n*66+65)=aH (m.wt n):=by unfold fm;rw[if_neg (by omega),if_neg (by omega),show(n*66+65)/66=n by omega]
def o2(m:MS)(n:Nat)(b:Bool):MS:={m with rd:=fun k=>if k=n then b else m.rd k}
def px(m:MS)(n:Nat)(b:Bool):MS:={m with wt:=fun k=>if k=n then b else m.wt k}
theorem alD(m:MS)(n:Nat)(b:Bool):e0 (fm m) (n*66+64) (aH b)=fm (o2 m n b):=by
 funext i;unfold e0;by_cases h:i=n*66+64;.rw[if_pos h,h,VN];simp[o2]
 .rw[if_neg h];unfold fm o2;by_cases q:i%66<64;.rw[if_pos q,if_pos q]
  .rw[if_neg q,if_neg q];by_cases h2:i%66=64;.rw[if_pos h2,if_pos h2];show _=aH (if i/66=n then b else m.rd (i/66));rw[if_neg (by omega)]
   .rw[if_neg h2,if_neg h2]
theorem ahS(m:MS)(n:Nat)(b:Bool):e0 (fm m) (n*66+65) (aH b)=fm (px m n b):=by
 funext i;unfold e0;by_cases h:i=n*66+65;.rw[if_pos h,h,Yl];simp[px]
 .rw[if_neg h];unfold fm px;by_cases q:i%66<64;.rw[if_pos q,if_pos q]
  .rw[if_neg q,if_neg q];by_cases h2:i%66=64;.rw[if_pos h2,if_pos h2]
   .rw[if_neg h2,if_neg h2];show _=aH (if i/66=n then b else m.wt (i/66));rw[if_neg (by omega)]
def fp(g:Nat)(m:MS)(W:ac):Prop:=W.heap[g]?=U (.cells (VA 792 (fm m)) 155 (0,0))
theorem fp.au{g:Nat}{m:MS}{W V:ac}(h:fp g m W)(hb:Below W.heap.size W V):fp g m V:=(hb.block g (Array.getElem?_eq_some_iff.1 h).1).trans h
structure MB where
 W:ac
 g:Nat
 m0:MS
 ok:fp g m0 W
def ap_(D:MB)(m:MS)(k:Nat):ac:=(D.W.setRow D.g (VA 792 (fm m))).drewN k
theorem ap'(D:MB)(m:MS)(k:Nat):(ap_ D m k).heap[D.g]?=U (.cells (VA 792 (fm m)) 155 (0,0)):=setRow_heap _ _ _ _ _ _ D.ok
theorem aoU(D:MB)(m:MS)(k:Nat):fp D.g m (ap_ D m k):=ap' D m k
theorem SB(D:MB)(m:MS)(k i:Nat)(hi:i<792):(ap_ D m k).cell? ⟨D.g,i,ab⟩=U (fm m i):=by rw[cell_of_row _ _ i _ _ _ (ap' D m k),km 792 _ i hi]
theorem Il(D:MB)(m:MS)(k i:Nat):(ap_ D m k).frozen? ⟨D.g,i,ab⟩=false:=frozen_of_row _ _ i _ _ (ap' D m k)
theorem l'(W:ac)(g:Nat)(c0 c1 c2:Array ag)(t:TypeId)(h:W.heap[g]?=U (.cells c0 t (0,0))):(W.setRow g c1).setRow g c2=W.setRow g c2:=by
 unfold World.setRow;congr 1;apply vB;intro j;simp only[Array.getElem?_modify];by_cases hj:g=j;.subst hj;simp[h]
 .simp[hj]
theorem aax(D:MB)(m m':MS)(k:Nat):(ap_ D m k).setRow D.g (VA 792 (fm m'))=ap_ D m' k:=by unfold ap_;exact congrArg (World.drewN · k) (l' D.W D.g _ _ _ _ D.ok)
theorem Yv(D:MB)(m:MS)(k i:Nat)(v:ag)(m':MS)(h:e0 (fm m) i v=fm m'):(ap_ D m k).setCell ⟨D.g,i,ab⟩ v=ap_ D m' k:=by rw[setCell_eq_setRow _ _ i _ _ _ _ (ap' D m k),qu,h,aax]
theorem t_(D:MB)(m:MS)(k n:Nat)(u:n<12):(ap_ D m k).cell? ⟨D.g,n*66+64,ab⟩=U (aH (m.rd n)):=by rw[SB D m k _ (by omega),VN]
theorem Kx(D:MB)(m:MS)(k n:Nat)(u:n<12):(ap_ D m k).cell? ⟨D.g,n*66+65,ab⟩=U (aH (m.wt n)):=by rw[SB D m k _ (by omega),Yl]
theorem akS(D:MB)(m:MS)(k n j:Nat)(u:n<12)(hj:j<64):(ap_ D m k).cell? ⟨D.g,n*66+j,ab⟩=U (I aM (m.ei (n*64+j))):=by rw[SB D m k _ (by omega),al4 _ _ _ hj]
theorem OL(D:MB)(m:MS)(k n:Nat)(b:Bool):(ap_ D m k).setCell ⟨D.g,n*66+64,ab⟩ (aH b)=ap_ D (o2 m n b) k:=Yv D m k _ _ _ (alD m n b)
theorem RR(D:MB)(m:MS)(k n:Nat)(b:Bool):(ap_ D m k).setCell ⟨D.g,n*66+65,ab⟩ (aH b)=ap_ D (px m n b) k:=Yv D m k _ _ _ (ahS m n b)
theorem DH(D:MB)(m:MS)(k n:Nat):(ap_ D m k).drewN n=ap_ D m (k+n):=by unfold ap_;rw[World.drewN_drewN]
theorem IN(D:MB)(m:MS)(k:Nat):(ap_ D m k).drew=ap_ D m (k+1):=DH D m k 1
theorem Xz{g:Nat}{m:MS}{W:ac}(h:fp g m W):W=ap_ ⟨W,g,m,h⟩ m 0:=by show W=(W.setRow g (VA 792 (fm m))).drewN 0;rw[show(W.setRow g (VA 792 (fm m)))=W from setRow_self W g _ _ _ h];rfl
end Go.Proofs.YtefdakbahplnbaaGreatDoor.Mm
namespace Go.Proofs.YtefdakbahplnbaaGreatDoor.Bp
end Go.Proofs.YtefdakbahplnbaaGreatDoor.Bp
namespace Go.Proofs.YtefdakbahplnbaaGreatDoor.Mm
open Go.Proofs.YtefdakbahplnbaaGreatDoor.Bp
open Go.RowKit
theorem Hf(n:Int)(w:ac):ap ae 138 #[I R n] w fun e w'=>e=aq (aH (decide (0<=n)&&decide (n<8)))/\w'=w:=by go_enter func138,ntmps138;go_wp2;all_goals go_ret;exact⟨gm (by rw[fs];simp;try omega),J⟩
theorem Nq(n:Nat)(u:n<=12)(w:ac):ap ae 256 #[I R n] w fun e w'=>e=aq (I ah (n*64:Nat))/\w'=w:=by go_enter func256,ntmps256;go_wp2;go_ret;refine⟨ia ?_,J⟩;omega
def wY:MS:=⟨fun _=>0,fun _=>false,fun _=>false⟩
set_option maxRecDepth 100000 in theorem Y8:Tryz.zeroCells155=VA 792 (fm wY):=by rw[yV];kernel_rfl
theorem ag2(w:ac):ap ae 37 #[] w fun e w'=>e=aq (av (U ⟨w.heap.size,0,ab⟩))/\Below w.heap.size w w'/\fp w.heap.size wY w':=by go_enter func37,ntmps37;go_wp2_with fail;go_ret;exact⟨J,(Below.refl _ _).alloc (aA _) _,by rw[Y8];exact heap_alloc_new _ _⟩
end Go.Proofs.YtefdakbahplnbaaGreatDoor.Mm
namespace Go.Proofs.YtefdakbahplnbaaGreatDoor.Bp
end Go.Proofs.YtefdakbahplnbaaGreatDoor.Bp
namespace Go.Proofs.YtefdakbahplnbaaGreatDoor.Mm
open Go.Proofs.YtefdakbahplnbaaGreatDoor.Bp
open Go.RowKit
attribute[local go_sem]IN DH Il OL RR
theorem agY(D:MB)(m:MS)(k:Nat)(n:Int)(u:¬(0<=n/\n<8))(b:Bool):ap ae 97 #[av (U ⟨D.g,0,ab⟩),I R n,aH b] (ap_ D m k) fun e w'=>e=aq (b8 43 (I R 5))/\w'=ap_ D m k:=by
 have hd:(decide (0<=n)&&decide (n<8))=false:=by rw[FG];simp;omega
 go_enter func97,ntmps97;go_wp2_with(go_at_call 138;refine(Hf _ _).mono ?_;rw[hd];rintro e w'⟨rfl,rfl⟩);go_ret;exact⟨J,J⟩
theorem ac6(D:MB)(m:MS)(k n:Nat)(u:n<8)(b:Bool):ap ae 97 #[av (U ⟨D.g,0,ab⟩),I R n,aH b] (ap_ D m k) fun e w'=>e=aq .nilIface/\∃k',w'=ap_ D (px (o2 m n true) n b) k':=by
 have hd:(decide (0<=(n:Int))&&decide ((n:Int)<8))=true:=by simp;omega
 have c1:=fun m k=>t_ D m k n (by omega);have c2:=fun m k=>Kx D m k n (by omega);go_enter func97,ntmps97;go_wp2_with(go_at_call 138;refine(Hf _ _).mono ?_;rw[hd];rintro e w'⟨rfl,hw⟩;rw[hw];clear hw w');go_region;go_wp2;go_ret;exact⟨J,_,J⟩
theorem K9(g:Nat)(a:Nat)(ha:a<768)(w:ac):ap ae 140 #[av (U ⟨g,0,ab⟩),I ah a] w fun e w'=>e=aq (az #[av (U ⟨g,a/64*66,ab⟩),I R (a%64:Nat)])/\w'=w:=by go_enter func140,ntmps140;go_wp2;go_ret2;exact⟨J,J⟩
theorem Zh(g:Nat)(a:Nat)(ha:768<=a)(hb:a<18446744073709551616)(w:ac):ap ae 140 #[av (U ⟨g,0,ab⟩),I ah a] w fun e w'=>e=aq (az #[av ab,I R 0])/\w'=w:=by
 obtain⟨B,N⟩:∃B:Int,B=(a:Int)/64:=⟨_,J⟩;have hw:ah.wrap ((a:Int)/64)=B:=by rw[IntKind.wrap_u64,N];omega
 have eL:(12:Int)<=B:=by omega
 clear hb N;go_enter func140,ntmps140;go_wp2;go_ret2;exact⟨J,J⟩
theorem aom(D:MB)(m:MS)(k a:Nat)(ha:a<768)(L:m.rd (a/64)=true):ap ae 186 #[av (U ⟨D.g,0,ab⟩),I ah a] (ap_ D m k) fun e w'=>e=aq (az #[I aM (m.ei a), .nilIface])/\w'=ap_ D m k:=by have c1:=fun k=>t_ D m k (a/64) (by omega);rw[L]at c1;have c2:=fun k=>akS D m k (a/64) (a%64) (by omega) (by omega);rw[show a/64*64+a%64=a by omega]at c2;go_enter func186,ntmps186;go_wp2_with(go_at_call 140;refine(K9 _ a ha _).mono ?_;rintro e w'⟨rfl,hw⟩;rw[hw];clear hw w');go_ret2;exact⟨J,J⟩
theorem amx(D:MB)(m:MS)(k a:Nat)(ha:768<=a)(hb:a<18446744073709551616):ap ae 186 #[av (U ⟨D.g,0,ab⟩),I ah a] (ap_ D m k) fun e w'=>e=aq (az #[I aM 0,b8 43 (I R 5)])/\w'=ap_ D m k:=by have HF:=fun w=>Zh D.g a ha hb w;clear hb ha;go_enter func186,ntmps186;go_wp2_with(go_at_call 140;refine(HF _).mono ?_;rintro e w'⟨rfl,hw⟩;rw[hw];clear hw w');go_ret2;exact⟨J,J⟩
theorem aeS(D:MB)(m:MS)(k a:Nat)(ha:a<768)(L:m.rd (a/64)=false):ap ae 186 #[av (U ⟨D.g,0,ab⟩),I ah a] (ap_ D m k) fun e w'=>e=aq (az #[I aM 0,b8 43 (I R 5)])/\w'=ap_ D m k:=by have c1:=fun k=>t_ D m k (a/64) (by omega);rw[L]at c1;go_enter func186,ntmps186;go_wp2_with(go_at_call 140;refine(K9 _ a ha _).mono ?_;rintro e w'⟨rfl,hw⟩;rw[hw];clear hw w');go_ret2;exact⟨J,J⟩
end Go.Proofs.YtefdakbahplnbaaGreatDoor.Mm
namespace Go.Proofs.YtefdakbahplnbaaGreatDoor.Bp
end Go.Proofs.YtefdakbahplnbaaGreatDoor.Bp
namespace Go.Proofs.YtefdakbahplnbaaGreatDoor.Mm
open Go.Proofs.YtefdakbahplnbaaGreatDoor.Bp
open Go.RowKit
def hJ(m:MS)(a:Nat)(l:List UInt8):MS:={m with ei:=fun x=>if a<=x/\x<a+l.length then(l.getD (x-a) 0).toNat else m.ei x}
theorem akm(m:MS)(n j:Nat)(l:List UInt8)(u:n<12)(hl:j+l.length<=64):((VA 792 (fm m)).toList.take (n*66+j)++sI l++(VA 792 (fm m)).toList.drop (n*66+j+l.length)).toArray=VA 792 (fm (hJ m (n*64+j) l)):=by
 have cY:(VA 792 (fm m)).toList.length=792:=by rw[Array.length_toList,l7]
 have jS:(sI l).length=l.length:=by simp[sI]
 apply vB;intro i;rw[List.getElem?_toArray];by_cases hi:i<792
 .rw[km 792 _ i hi];have hv:(VA 792 (fm m)).toList[i]?=U (fm m i):=by rw[Array.getElem?_toList,km 792 _ i hi]
  by_cases q:i<n*66+j
  .rw[y8,vG (by rw[nJ,cY];omega),List.getElem?_take,if_pos q,hv];congr 1;unfold fm hJ;by_cases h6:i%66<64;.rw[if_pos h6,if_pos h6];show _=I aM ((if n*64+j<=i/66*64+i%66/\i/66*64+i%66<n*64+j+l.length then _ else m.ei (i/66*64+i%66):Nat):Int);rw[if_neg (by omega)]
   .rw[if_neg h6,if_neg h6]
  .by_cases h2:i<n*66+j+l.length
   .have ht:((VA 792 (fm m)).toList.take (n*66+j)).length=n*66+j:=by rw[nJ,cY];omega
    rw[y8,vF (by rw[ht];omega),ht,vG (by rw[jS];omega)];have Ak:i-(n*66+j)<l.length:=by omega
    have e1:(sI l)[i-(n*66+j)]?=U (I aM (l[i-(n*66+j)].toNat:Int)):=by unfold sI;rw[List.getElem?_map,cq Ak];rfl
    rw[e1];congr 1;unfold fm hJ;rw[if_pos (by omega)];show _=I aM ((if n*64+j<=i/66*64+i%66/\i/66*64+i%66<n*64+j+l.length then(l.getD (i/66*64+i%66-(n*64+j)) 0).toNat else m.ei (i/66*64+i%66):Nat):Int);rw[if_pos (by omega),show i/66*64+i%66-(n*64+j)=i-(n*66+j)by omega,List.getD_eq_getElem?_getD,cq Ak];rfl
   .have ht:((VA 792 (fm m)).toList.take (n*66+j)++sI l).length=n*66+j+l.length:=by rw[cl,nJ,cY,jS];omega
    rw[vF (by rw[ht];omega),ht,List.getElem?_drop,show n*66+j+l.length+(i-(n*66+j+l.length))=i by omega,hv];congr 1;unfold fm hJ;by_cases h6:i%66<64;.rw[if_pos h6,if_pos h6];show _=I aM ((if n*64+j<=i/66*64+i%66/\i/66*64+i%66<n*64+j+l.length then _ else m.ei (i/66*64+i%66):Nat):Int);rw[if_neg (by omega)]
    .rw[if_neg h6,if_neg h6]
 .rw[DF 792 _ i hi,List.getElem?_eq_none];rw[cl,cl,nJ,List.length_drop,cY,jS];omega
theorem WC(D:MB)(m:MS)(k n j:Nat)(l:List UInt8)(u:n<12)(hl:j+l.length<=64):(storeCells ⟨D.g,n*66+j,ab⟩ (sI l)).run ae (ap_ D m k)= .ok () (ap_ D (hJ m (n*64+j) l) k):=by have h:=run_storeCells_at ae D.g (n*66+j) 155 (sI l) 0 (VA 792 (fm m)) (ap_ D m k) (ap' D m k) (by rw[l7];simp[sI];omega) (Lib.byteCells_one _);rw[po,show(sI l).length=l.length by simp[sI],akm m n j l u hl]at h;rw[h,aax]
theorem ZF(D:MB)(m:MS)(k n j cap ty:Nat)(s:ByteArray)(u:n<12)(hj:j<=64):(Builtin.copy_ #[134,9] ty #[ak (U ⟨D.g,n*66+j,ab⟩) (64-j) cap, .string s]).run ae (ap_ D m k)= .ok (goInt (xm s.size (64-j))) (ap_ D (hJ m (n*64+j) (s.data.toList.take (xm s.size (64-j)))) k):=by
 have F:(ae.info? 5).map (·.size)=U 1:=by kernel_rfl
 have bN:=WC D m k n j (s.data.toList.take (xm s.size (64-j))) u (by have q:=List.length_take_le (xm s.size (64-j)) s.data.toList;have h2:xm s.size (64-j)<=64-j:=Nat.min_le_right _ _;omega);have lA:List.take (xm s.size (64-j)) (List.map (fun b:UInt8=>I aM (b.toNat:Int)) s.data.toList)=sI (s.data.toList.take (xm s.size (64-j))):=by unfold sI;rw[List.map_take]
 cases N:ae.info? 5 with
  |none=>simp[N]at F
  |some i=>simp[Builtin.copy_,sJ underlying134,Builtin.lenOf,Builtin.firstCells,sizeOf,typeInfo,N];rw[lA,bN];simp[tQ]
def td:List UInt8:=List.replicate 64 0
theorem Le:td.length=64:=by unfold td;rw[List.length_replicate]
theorem aek(D:MB)(m:MS)(k n cap ty:Nat)(u:n<12):(Builtin.clear_ #[134] ty #[ak (U ⟨D.g,n*66,ab⟩) 64 cap]).run ae (ap_ D m k)= .ok (az #[]) (ap_ D (hJ m (n*64) td) k):=by
 have bN:=WC D m k n 0 td u (by rw[Le];omega);rw[po,po]at bN;have hz:(Builtin.zeroCells (I aM 0).cells 64).toList=sI td:=by kernel_rfl
 have hv:∀w,(zeroValue 5).run ae w= .ok (I aM 0) w:=zeroValue5;simp[Builtin.clear_,sJ underlying134,hv,hz,bN,tQ]
theorem abv{a_:Array bz}{rest:List bz}{o:bz}{a:Act}{aE:Exit->Act->ac->Prop}(de:o.guard=ab)(d x:Operand)(ho:o.op= .call {callee:= .builtin .copy,args:=#[d,x],argTypes:=#[134,9]})(D:MB)(m:MS)(k n j cap:Nat)(s:ByteArray)(u:n<12)(hj:j<=64)(hd:a.eval d=ak (U ⟨D.g,n*66+j,ab⟩) (64-j) cap)(F:a.eval x= .string s)(h:wpList ae a_ aE rest (a.put o.dst (goInt (xm s.size (64-j)))) (ap_ D (hJ m (n*64+j) (s.data.toList.take (xm s.size (64-j)))) k)):wpList ae a_ aE (o::rest) a (ap_ D m k):=by refine vI de fun K A=>?_;have qc:=ZF D m k n j cap o.type s u hj;unfold Oper.wp;simp[execOp,ho,resolve,invoke,builtin,hd,F,qc,tQ];exact A _ _ h
theorem ait{a_:Array bz}{rest:List bz}{o:bz}{a:Act}{aE:Exit->Act->ac->Prop}(de:o.guard=ab)(d:Operand)(ho:o.op= .call {callee:= .builtin .clear,args:=#[d],argTypes:=#[134]})(D:MB)(m:MS)(k n cap:Nat)(u:n<12)(hd:a.eval d=ak (U ⟨D.g,n*66,ab⟩) 64 cap)(h:wpList ae a_ aE rest (a.put o.dst (az #[])) (ap_ D (hJ m (n*64) td) k)):wpList ae a_ aE (o::rest) a (ap_ D m k):=by refine vI de fun K A=>?_;have qc:=aek D m k n cap o.type u;unfold Oper.wp;simp[execOp,ho,resolve,invoke,builtin,hd,qc,tQ];exact A _ _ h
end Go.Proofs.YtefdakbahplnbaaGreatDoor.Mm
namespace Go.Proofs.YtefdakbahplnbaaGreatDoor.Bp
end Go.Proofs.YtefdakbahplnbaaGreatDoor.Bp
namespace Go.Proofs.YtefdakbahplnbaaGreatDoor.Mm
open Go.Proofs.YtefdakbahplnbaaGreatDoor.Bp
open Go.RowKit
attribute[local go_sem]IN DH Il OL RR
def pM(m:MS)(n:Nat):MS:=hJ (px (o2 m n false) n false) (n*64) td
theorem aa1(D:MB)(m:MS)(k n:Nat)(u:n<12):ap ae 139 #[av (U ⟨D.g,n*66,ab⟩)] (ap_ D m k) fun e w'=>e=aq (az #[])/\w'=ap_ D (pM m n) k:=by have c1:=fun m k=>t_ D m k n u;have c2:=fun m k=>Kx D m k n u;go_enter func139,ntmps139;go_wp2_with(refine ait J _ J D _ _ n _ u J ?_);go_end0;exact⟨J,J⟩
theorem ajq(D:MB)(m:MS)(k:Nat)(n:Int)(u:¬(0<=n/\n<8)):ap ae 98 #[av (U ⟨D.g,0,ab⟩),I R n] (ap_ D m k) fun e w'=>e=aq (b8 43 (I R 5))/\∃k',w'=ap_ D m k':=by
 have hd:(decide (0<=n)&&decide (n<8))=false:=by rw[FG];simp;omega
 go_enter func98,ntmps98;go_wp2_with(go_at_call 138;refine(Hf _ _).mono ?_;rw[hd];rintro e w'⟨rfl,rfl⟩);go_ret;exact⟨J,_,J⟩
theorem aml(D:MB)(m:MS)(k n:Nat)(u:n<8)(L:m.rd n=true):ap ae 98 #[av (U ⟨D.g,0,ab⟩),I R n] (ap_ D m k) fun e w'=>e=aq .nilIface/\∃k',w'=ap_ D (pM m n) k':=by
 have hd:(decide (0<=(n:Int))&&decide ((n:Int)<8))=true:=by simp;omega
 have c1:=fun k=>t_ D m k n (by omega);rw[L]at c1;go_enter func98,ntmps98;go_wp2_with(first|(go_at_call 138;refine(Hf _ _).mono ?_;rw[hd];rintro e w'⟨rfl,hw⟩;rw[hw];clear hw w')|(go_at_call 139;refine(aa1 D m _ n (by omega)).mono ?_;rintro e w'⟨rfl,rfl⟩));go_ret;exact⟨J,_,J⟩
theorem af'(D:MB)(m:MS)(k n:Nat)(u:n<8)(L:m.rd n=false):ap ae 98 #[av (U ⟨D.g,0,ab⟩),I R n] (ap_ D m k) fun e w'=>e=aq (b8 43 (I R 5))/\∃k',w'=ap_ D m k':=by
 have hd:(decide (0<=(n:Int))&&decide ((n:Int)<8))=true:=by simp;omega
 have c1:=fun k=>t_ D m k n (by omega);rw[L]at c1;go_enter func98,ntmps98;go_wp2_with(go_at_call 138;refine(Hf _ _).mono ?_;rw[hd];rintro e w'⟨rfl,hw⟩;rw[hw];clear hw w');go_ret;exact⟨J,_,J⟩
def na(m:MS):Nat->Nat|0=>0|j+1=>na m j+if m.rd (8+j)=true then 1 else 0
theorem Me(m:MS):∀j,na m j<=j|0=>aA _|j+1=>by have:=Me m j;rw[na];split<;>omega
theorem aih(D:MB)(m:MS)(k:Nat):ap ae 72 #[av (U ⟨D.g,0,ab⟩)] (ap_ D m k) fun e w'=>e=aq (I R (na m 4))/\∃k',w'=ap_ D m k':=by
 go_enter func72,ntmps72;go_wp2;go_loopw[3,4](fun K bu w'=>∃n:Nat,8<=n/\n<=12/\K=I R (na m (n-8))/\bu=I R n/\w'=ap_ D m k)(fun _ bu _=>12-(intOf bu).toNat);case atStart=>exact⟨8,by omega,by omega,J,J,J⟩
 case round=>
  obtain⟨n,h8,eL,rfl,rfl,rfl⟩:=hrel;have H:=Me m (n-8);by_cases am:n<12
  .have c1:=t_ D m k n am;have G:=aa (show na m (n+1-8)=na m (n-8)+if m.rd n=true then 1 else 0 by rw[show n+1-8=(n-8)+1 by omega,na,show 8+(n-8)=n by omega]);cases L:m.rd n with
    |false=>
     rw[L]at c1 G;clear L;go_wp2;go_round;case rel=>exact⟨n+1,by omega,by omega,by rw[G.out];rfl,by go_num,trivial⟩
     case measure=>simp[intOf];omega
    |true=>
     rw[L]at c1 G;clear L;go_wp2;go_round;case rel=>exact⟨n+1,by omega,by omega,by rw[G.out];rfl,by go_num,trivial⟩
     case measure=>simp[intOf];omega
  .obtain rfl:n=12:=by omega
   go_wp2;go_ret;exact⟨J,k,J⟩
theorem am2(D:MB)(m:MS)(k:Nat)(a:Int)(kX:∀n,8<=n->n<12->m.rd n=true->(a≠(n*64:Nat))):ap ae 234 #[av (U ⟨D.g,0,ab⟩),I ah a] (ap_ D m k) fun e w'=>e=aq (b8 43 (I R 8))/\∃k',w'=ap_ D m k':=by
 have OO:=aa kX;clear kX;go_enter func234,ntmps234;go_wp2;go_loopw[5](fun bu w'=>∃n:Nat,8<=n/\n<=12/\bu=I R n/\w'=ap_ D m k)(fun bu _=>12-(intOf bu).toNat);case atStart=>exact⟨8,by omega,by omega,J,J⟩
 case round=>
  obtain⟨n,h8,eL,rfl,rfl⟩:=hrel;by_cases am:n<12
  .have c1:=t_ D m k n am;cases L:m.rd n with
    |false=>
     rw[L]at c1;clear L;go_wp2;go_round;case rel=>exact⟨n+1,by omega,by omega,by go_num,trivial⟩
     case measure=>simp[intOf];omega
    |true=>
     have bo:(((n*64:Nat):Int)==a)=false:=by have:=OO.out n h8 am L;rw[beq_eq_false_iff_ne];exact fun e=>this e.symm
     rw[L]at c1;clear L;go_wp2_with(go_at_call 256;refine(Nq n (by omega) _).mono ?_;rintro e w'⟨rfl,hw⟩;rw[hw];clear hw w');go_round;case rel=>exact⟨n+1,by omega,by omega,by go_num,trivial⟩
     case measure=>simp[intOf];omega
  .obtain rfl:n=12:=by omega
   go_wp2;go_ret;exact⟨J,k,J⟩
theorem akn(D:MB)(m:MS)(k B:Nat)(GP:8<=B)(N:B<12)(yw:m.rd B=true):ap ae 234 #[av (U ⟨D.g,0,ab⟩),I ah ((B*64:Nat):Int)] (ap_ D m k) fun e w'=>e=aq .nilIface/\∃k',w'=ap_ D (pM m B) k':=by
 obtain⟨a,ha⟩:∃a:Int,a=((B*64:Nat):Int):=⟨_,J⟩;rw[<-ha];have HA:=aa ha;clear ha;go_enter func234,ntmps234;go_wp2;go_loopw[5](fun bu w'=>∃n:Nat,8<=n/\n<=B/\bu=I R n/\w'=ap_ D m k)(fun bu _=>12-(intOf bu).toNat);case atStart=>exact⟨8,by omega,by omega,J,J⟩
 case round=>
  obtain⟨n,h8,eL,rfl,rfl⟩:=hrel;have c1:=t_ D m k n (by omega);by_cases am:n<B
  .cases L:m.rd n with
    |false=>
     rw[L]at c1;clear L;go_wp2;go_round;case rel=>exact⟨n+1,by omega,by omega,by go_num,trivial⟩
     case measure=>simp[intOf];omega
    |true=>
     have bo:(((n*64:Nat):Int)==a)=false:=by rw[beq_eq_false_iff_ne,HA.out];omega
     rw[L]at c1;clear L;go_wp2_with(go_at_call 256;refine(Nq n (by omega) _).mono ?_;rintro e w'⟨rfl,hw⟩;rw[hw];clear hw w');go_round;case rel=>exact⟨n+1,by omega,by omega,by go_num,trivial⟩
     case measure=>simp[intOf];omega
  .obtain rfl:n=B:=by omega
   have EF:(((n*64:Nat):Int)==a)=true:=by rw[beq_iff_eq,HA.out]
   rw[yw]at c1;go_wp2_with(first|(go_at_call 256;refine(Nq n (by omega) _).mono ?_;rintro e w'⟨rfl,hw⟩;rw[hw];clear hw w')|(go_at_call 139;refine(aa1 D m _ n (by omega)).mono ?_;rintro e w'⟨rfl,hw⟩;rw[hw];clear hw w'));go_ret;exact⟨J,_,J⟩
end Go.Proofs.YtefdakbahplnbaaGreatDoor.Mm
namespace Go.Proofs.YtefdakbahplnbaaGreatDoor.Bp
end Go.Proofs.YtefdakbahplnbaaGreatDoor.Bp
namespace Go.Proofs.YtefdakbahplnbaaGreatDoor.Mm
open Go.Proofs.YtefdakbahplnbaaGreatDoor.Bp
open Go.RowKit
structure RS where
 ew:Nat->Nat
 gM:Nat->Nat
def e'(r:RS)(i:Nat):ag:=if i<12 then I R (r.ew i)else I aM (r.gM (i-12))
theorem aag(r:RS)(n:Nat)(u:n<12):e' r n=I R (r.ew n):=by unfold e';rw[if_pos u]
theorem ZL(r:RS)(a:Nat):e' r (12+a)=I aM (r.gM a):=by unfold e';rw[if_neg (by omega),show 12+a-12=a by omega]
def lB(r:RS)(n x:Nat):RS:={r with ew:=fun k=>if k=n then x else r.ew k}
def vq(r:RS)(a x:Nat):RS:={r with gM:=fun k=>if k=a then x else r.gM k}
theorem akp(r:RS)(n x:Nat)(u:n<12):e0 (e' r) n (I R x)=e' (lB r n x):=by
 funext i;unfold e0;by_cases h:i=n;.rw[if_pos h,h,aag _ n u];simp[lB]
 .rw[if_neg h];unfold e' lB;by_cases q:i<12;.rw[if_pos q,if_pos q];show _=I R ((if i=n then x else r.ew i:Nat):Int);rw[if_neg h]
  .rw[if_neg q,if_neg q]
theorem ZV(r:RS)(a x:Nat):e0 (e' r) (12+a) (I aM x)=e' (vq r a x):=by
 funext i;unfold e0;by_cases h:i=12+a;.rw[if_pos h,h,ZL];simp[vq]
 .rw[if_neg h];unfold e' vq;by_cases q:i<12;.rw[if_pos q,if_pos q]
  .rw[if_neg q,if_neg q];show _=I aM ((if i-12=a then x else r.gM (i-12):Nat):Int);rw[if_neg (by omega)]
def ol(r:RS)(a:Nat):Option Nat:=if a<768/\r.ew (a/64)≠0 then U (r.gM a)else ab
def vP:Option Nat->ag|ab=>az #[I aM 0,I R 5]|U x=>az #[I aM x,I R 0]
end Go.Proofs.YtefdakbahplnbaaGreatDoor.Mm
