/- What the rows over slices of structs need besides: the last step, and cells of elements. -/
import Derived.ProofKit
import Derived.OpenShut
import Derived.Deep.Slices
import Derived.Test.YtefdakbahplnbaaGreatDoorK21
import Derived.Test.YtefdakbahplnbaaGreatDoorK16
open Go.Proofs.Tryz
open Go renaming Calls->ap,Value->ag,World->ac,heap_alloc_new->a7
open Go.Ending renaming returned->aq
open Go.IntKind renaming i64->R
open Go.Lib renaming decDigits->aQ,size_eq->dy
open Go.Proofs.Tryz renaming prog->ae
open Go.Value renaming int->I,pointer->av,string->ad
open List renaming replicate->N8
open Option renaming none->ab,some->U
namespace Go.Proofs.YtefdakbahplnbaaGreatDoor
open Go.ChangeShapes Go.WideShapes Go.ChangeAt Go.RowKit Go.WideMaps Go.WideElems
theorem cW:ownKnob ae.godebug=ab:=by kernel_rfl
theorem agw:laidOutB ae=true:=by kernel_rfl
theorem acY{ge:Type}{enc:TypeId×ag->ge}{P:Program}{f:Func}{s:ChangeSpec}{A1 amk adt:Bool}{W W':ac}{args:Array ag}{v:ag}{rR gs:List (DataW ge)}{uz LK ym:List MemPlace}(hW:DataW.Whole enc P f.params.toList s.vars A1 W args.toList rR gs uz)(aZ:∀(b:Nat)(MC:Nat->Bool)(hd:Bool),DataW.TrodAll enc P W' b MC hd f.resultTypes.toList (v.resultList f.resultTypes.size) (s.fn ge (rR++gs)).results [])(ac3:DataW.TrodAll enc P W' 0 (fun b=>decide (b<W.heap.size)) true f.params.toList args.toList (s.fn ge (rR++gs)).args LK)(acZ:∀MC:Nat->Bool,(∀p∈uz,MC p.block=true)->DataW.TrodVars enc P W' MC s.vars (s.fn ge (rR++gs)).vars ym)(wB:uz=LK++ym)(z:Below W.heap.size W W'):s.post enc P f A1 amk adt false W args v W':=by
 have alr:∀p∈uz,(fun b=>decide (b<W.heap.size)) p.block=true:=fun p hp=>by simpa using hW.lt p hp
 refine⟨rR,gs,uz,[],LK,ym,hW,aZ _ _ _,ac3,acZ _ alr,World.keptBut_mono (fun p hp=>⟨hp,?_⟩) (z.frame (·∈uz)),fun h=>by cases h⟩;rw[wB,List.mem_append]at hp;exact Or.inr hp
theorem amU{w:ac}{b off k i:Nat}{cs:List ag}(h:w.cells? 0 ((⟨b,off,ab⟩:Addr).add (i*k)) k=U cs)(j:Nat)(hj:j<k):w.cell? ⟨b,off+i*k+j,ab⟩=cs[j]?:=by have H:=(World.cells?_some h).2.2 j hj;rw[Go.Deep.add_add,add_plain]at H;rw[show off+i*k+j=off+(i*k+j)by omega];exact H
end Go.Proofs.YtefdakbahplnbaaGreatDoor
namespace Go.Proofs.YtefdakbahplnbaaGreatDoor.Vr
open Go.RowKit Mm Bp
attribute[local go_sem]IM Dz Am
theorem abI(D:RB)(k:Nat):∀(j:Nat)(r:RS)(a:Nat),a+j<=768->(RW D r k).setCells D.g.g (D.g.o+(12+a)) (N8 j (I .u8 0))=RW D (ul r a j) k|0,r,a,_=>by rw[ajG];rfl|j+1,r,a,hj=>by have h:(RW D r k).setCell ⟨D.g.g,D.g.o+(12+a),ab⟩ (I .u8 0)=RW D (vq r a 0) k:=Ti D r k (12+a) _ (vq r a 0) (by omega) (ZV r a 0);rw[List.replicate_succ,World.setCells,h,show D.g.o+(12+a)+1=D.g.o+(12+(a+1))by omega,abI D k j (vq r a 0) (a+1) (by omega),aev]
theorem Tn{a_:Array Oper}{rest:List Oper}{o:Oper}{a:Act}{aE:Exit->Act->ac->Prop}(de:o.guard=ab)(x al:Operand)(ho:o.op= .store 60 x al)(D:RB)(r:RS)(k n:Nat)(u:n<12)(hx:a.eval x=av (U ⟨D.g.g,D.g.o+12+n*64,ab⟩))(hy:a.eval al= .agg (N8 64 (I .u8 0)).toArray)(h:wpList ae a_ aE rest (a.put o.dst undef) (RW D (ul r (n*64) 64) k)):wpList ae a_ aE (o::rest) a (RW D r k):=by
 refine wpList_store_mid (P:=ae) de 60 x al ho D.g.g (D.g.o+12+n*64) _ hx hy ?_ (by rw[anc];rfl) (all_oneCell_toArray fun v hv=>by rw[List.eq_of_mem_replicate hv];rfl) ?_
 .intro j hj;have nz:j<64:=by simpa using hj
  exact⟨by rw[show D.g.o+12+n*64+j=D.g.o+(12+n*64+j)by omega,Hx D r k _ (by omega)];rfl,Am D r k _⟩
 .rw[show(N8 64 (I .u8 0)).toArray.toList=N8 64 (I .u8 0)from J,Nat.add_assoc D.g.o 12,abI D k 64 r (n*64) (by omega)];exact h
theorem aln(D:RB)(r:RS)(k:Nat)(n:Int)(b:Bool)(u:¬(0<=n/\n<=7)):ap ae 23 #[av (U ⟨D.g.g,D.g.o,ab⟩),I R n, .bool b] (RW D r k) fun e w'=>e=aq (I R 5)/\w'=RW D r k:=by
 by_cases h0:n<0;.go_enter func23,ntmps23;go_wp2;go_ret;exact⟨J,J⟩
 .have h7:7<n:=by omega
  go_enter func23,ntmps23;go_wp2;go_ret;exact⟨J,J⟩
set_option maxRecDepth 20000 in theorem am_(D:RB)(r:RS)(k n:Nat)(b:Bool)(u:n<8):ap ae 23 #[av (U ⟨D.g.g,D.g.o,ab⟩),I R n, .bool b] (RW D r k) fun e w'=>e=aq (I R 0)/\w'=RW D (wq r n b) k:=by
 have c1:=fun r=>we D r k n (by omega);have c2:=fun r x=>KR D r k n x (by omega);have c3:=fun r=>c2 r 1;have fj:=fun r=>c2 r 2;have e1:((1:Nat):Int)=1:=J;have e2:((2:Nat):Int)=2:=J;rw[e1]at c3;rw[e2]at fj;clear c2 e1 e2;by_cases h0:r.ew n=0
 .have HS:=aa (show wq r n b=lB (ul r (n*64) 64) n (if b then 2 else 1)by unfold wq;rw[if_pos h0]);have c0:=c1 r;rw[h0]at c0;cases b with
   |false=>go_enter func23,ntmps23;go_wp2_with(refine Tn J _ _ J D r k n (by omega) ?_ ?_ ?_;(.rfl);(.rfl));go_ret;exact⟨J,by rw[HS.out];rfl⟩
   |true=>go_enter func23,ntmps23;go_wp2_with(refine Tn J _ _ J D r k n (by omega) ?_ ?_ ?_;(.rfl);(.rfl));go_ret;exact⟨J,by rw[HS.out,VO];rfl⟩
 .have HS:=aa (show wq r n b=lB r n (if b then 2 else 1)by unfold wq;rw[if_neg h0]);have d:((r.ew n:Int)==0)=false:=by rw[beq_eq_false_iff_ne];omega
  cases b with
   |false=>go_enter func23,ntmps23;go_wp2;go_ret;exact⟨J,by rw[HS.out];rfl⟩
   |true=>go_enter func23,ntmps23;go_wp2;go_ret;exact⟨J,by rw[HS.out,VO];rfl⟩
end Go.Proofs.YtefdakbahplnbaaGreatDoor.Vr
namespace Go.Proofs.YtefdakbahplnbaaGreatDoor.Bp
end Go.Proofs.YtefdakbahplnbaaGreatDoor.Bp
namespace Go.Proofs.YtefdakbahplnbaaGreatDoor.Mm
open Go.Proofs.YtefdakbahplnbaaGreatDoor.Bp
open Go.RowKit
def mY(r:RS)(a:Nat)(s:ByteArray)(i:Nat):RS:={r with gM:=fun x=>if a<=x/\x<a+i then an s (x-a)else r.gM x}
theorem acj(r:RS)(a:Nat)(s:ByteArray):mY r a s 0=r:=by
 unfold mY;have:(fun x=>if a<=x/\x<a+0 then an s (x-a)else r.gM x)=r.gM:=by funext x;rw[if_neg (by omega)]
 rw[this]
theorem Yf(r:RS)(a:Nat)(s:ByteArray)(i:Nat):vq (mY r a s i) (a+i) (an s i)=mY r a s (i+1):=by
 unfold mY vq;congr 1;funext x;by_cases h:x=a+i;.rw[if_pos h,if_pos (by omega),h,show a+i-a=i by omega]
 .rw[if_neg h];show(if a<=x/\x<a+i then _ else _)=_;by_cases q:a<=x/\x<a+i;.rw[if_pos q,if_pos (by omega)]
  .rw[if_neg q,if_neg (by omega)]
def L2(r:RS)(B:Nat)(s:ByteArray):RS:=mY (ul (lB r B 3) (B*64) 64) (B*64) s s.size
end Go.Proofs.YtefdakbahplnbaaGreatDoor.Mm
namespace Go.Proofs.YtefdakbahplnbaaGreatDoor.Vr
open Go.RowKit Mm Bp
attribute[local go_sem]IM Dz Am
theorem ahZ(D:RB)(r:RS)(k:Nat)(s:ByteArray)(F:s.size<=64)(zV:∀n,8<=n->n<12->r.ew n≠0):ap ae 119 #[av (U ⟨D.g.g,D.g.o,ab⟩),ad s] (RW D r k) fun e w'=>e=aq (.tuple #[I .u64 0,I R 9])/\∃k',w'=RW D r k':=by
 have S:=aa zV;clear zV;go_enter func119,ntmps119;go_wp2;go_loopw[6](fun bu w'=>∃n:Nat,8<=n/\n<=12/\bu=I R n/\w'=RW D r k)(fun bu _=>12-(intOf bu).toNat);case atStart=>exact⟨8,by omega,by omega,J,J⟩
 case round=>
  obtain⟨n,h8,eL,rfl,rfl⟩:=hrel;by_cases am:n<12
  .have c1:=we D r k n am;have q:(0:Int)<(r.ew n:Int):=by have:=S.out n h8 am;omega
   go_wp2;go_round;case rel=>exact⟨n+1,by omega,by omega,by go_num,trivial⟩
   case measure=>simp[intOf];omega
  .obtain rfl:n=12:=by omega
   go_wp2;go_ret2;exact⟨J,k,J⟩
set_option maxRecDepth 20000 in set_option maxHeartbeats 1000000 in theorem ah8(D:RB)(r:RS)(k B:Nat)(s:ByteArray)(F:s.size<=64)(GP:8<=B)(N:B<12)(Jl:∀n,8<=n->n<B->r.ew n≠0)(yw:r.ew B=0):ap ae 119 #[av (U ⟨D.g.g,D.g.o,ab⟩),ad s] (RW D r k) fun e w'=>e=aq (.tuple #[I .u64 ((B*64:Nat):Int),I R 0])/\∃k',w'=RW D (L2 r B s) k':=by
 have S:=aa Jl;have HR:=aa yw;clear Jl yw;go_enter func119,ntmps119;go_wp2;go_loopw[6](fun bu w'=>∃n:Nat,8<=n/\n<=B/\bu=I R n/\w'=RW D r k)(fun bu _=>12-(intOf bu).toNat);case atStart=>exact⟨8,by omega,by omega,J,J⟩
 case round=>
  obtain⟨n,h8,eL,rfl,rfl⟩:=hrel;have c1:=we D r k n (by omega);by_cases am:n<B
  .have q:(0:Int)<(r.ew n:Int):=by have:=S.out n h8 am;omega
   go_wp2;go_round;case rel=>exact⟨n+1,by omega,by omega,by go_num,trivial⟩
   case measure=>simp[intOf];omega
  .obtain rfl:n=B:=by omega
   rw[HR.out]at c1;have c3:(RW D r k).setCell ⟨D.g.g,D.g.o+n,ab⟩ (I R 3)=RW D (lB r n 3) k:=KR D r k n 3 (by omega);go_wp2_with(refine Tn J _ _ J D (lB r n 3) k n (by omega) ?_ ?_ ?_;(.rfl);(.rfl));obtain⟨r1,m6⟩:=af (ul (lB r n 3) (n*64) 64);rw[<-m6];replace m6:=aa m6;clear c1 c3;go_loopw[7](fun aL w'=>∃i k':Nat,i<=s.size/\aL=I R i/\w'=RW D (mY r1 (n*64) s i) k')(fun aL _=>64-(intOf aL).toNat);case atStart=>exact⟨0,k,by omega,J,by rw[acj]⟩
   case round=>
    obtain⟨i,k1,hi,rfl,rfl⟩:=hrel;by_cases Eq:i<s.size
    .have cV:=cd s i Eq;have qb:=ea s i;have nD:=fun k=>Ty D (mY r1 (n*64) s i) k n i (by omega) (by omega);have lv:=fun k=>abb D (mY r1 (n*64) s i) k n i (an s i) (by omega) (by omega);simp only[Yf]at lv;have hii:(i:Int)<(s.size:Int):=by omega
     have apP:(i:Int)<64:=by omega
     go_wp2_with fail;go_region;go_wp2;go_round;case rel=>exact⟨i+1,_,by omega,by go_num,J⟩
     case measure=>simp[intOf];omega
    .obtain rfl:i=s.size:=by omega
     go_wp2;go_ret2;refine⟨?_,k1,by rw[m6.out];rfl⟩;congr 3;simp;omega
end Go.Proofs.YtefdakbahplnbaaGreatDoor.Vr
namespace Go.Proofs.YtefdakbahplnbaaGreatDoor.Bp
end Go.Proofs.YtefdakbahplnbaaGreatDoor.Bp
namespace Go.Proofs.YtefdakbahplnbaaGreatDoor.Mm
open Go.Proofs.YtefdakbahplnbaaGreatDoor.Bp
open Go.RowKit
def vg(r:RS)(x:Nat):Prop:=x/64<=7/\r.ew (x/64)=2
instance(r:RS)(x:Nat):Decidable (vg r x):=inferInstanceAs(Decidable (_/\_))
theorem ZX{r:RS}{a n:Nat}(ha:a<18446744073709551616)(h:∀i,i<n->vg r (ch a i))(h0:0<n):a+n<=512:=by
 have q:=(h 0 h0).1;unfold ch at q;rw[Nat.add_zero,Nat.mod_eq_of_lt ha]at q;rcases Nat.lt_or_ge 512 (a+n)with h2|h2;.have h3:=(h (512-a) (by omega)).1;unfold ch at h3;rw[show a+(512-a)=512 by omega]at h3;exact absurd h3 (by decide)
 .exact h2
end Go.Proofs.YtefdakbahplnbaaGreatDoor.Mm
namespace Go.Proofs.YtefdakbahplnbaaGreatDoor.Bp
end Go.Proofs.YtefdakbahplnbaaGreatDoor.Bp
namespace Go.Proofs.YtefdakbahplnbaaGreatDoor.Mm
open Go.Proofs.YtefdakbahplnbaaGreatDoor.Bp
open Go.RowKit
structure pD(m:MS)(r:RS):Prop where
 pg:∀n,n<12->(m.rd n=true↔r.ew n≠0)
 wr:∀n,n<8->(m.wt n=true↔r.ew n=2)
 DD:∀n,8<=n->n<12->m.wt n=false
 gM:∀a,a<768->m.rd (a/64)=true->m.ei a=r.gM a
 mQ:∀a,a<768->m.rd (a/64)=false->m.ei a=0
 NQ:∀x,m.ei x<256
 zo:∀x,r.gM x<256
def DV:RS:=⟨fun _=>0,fun _=>0⟩
theorem aha:pD wY DV:=⟨fun n _=>by simp[wY,DV],fun n _=>by simp[wY,DV],fun _ _ _=>J,fun _ _ _=>J,fun _ _ _=>J,fun _=>Nat.zero_lt_succ 255,fun _=>Nat.zero_lt_succ 255⟩
theorem QO{m:MS}{r:RS}(h:pD m r):ey m=ol r:=by
 funext a;unfold ey ol;by_cases ha:a<768
 .have hp:=h.pg (a/64) (by omega);by_cases L:m.rd (a/64)=true;.rw[if_pos ⟨ha,L⟩,if_pos ⟨ha,hp.1 L⟩,h.gM a ha L]
  .rw[if_neg (fun e=>L e.2),if_neg (fun e=>L (hp.2 e.2))]
 .rw[if_neg (fun e=>ha e.1),if_neg (fun e=>ha e.1)]
theorem aa7{m:MS}{r:RS}(h:pD m r):∀j,j<=4->na m j=xa r j
 |0,_=>J
 |j+1,hj=>by
  rw[na,xa,aa7 h j (by omega)];have hp:=h.pg (8+j) (by omega);by_cases L:m.rd (8+j)=true;.rw[if_pos L,if_neg (hp.1 L)]
  .rw[if_neg L,if_pos (Classical.byContradiction fun e=>L (hp.2 e))]
theorem Zl{m:MS}{r:RS}(h:pD m r)(x:Nat):qR m x↔vg r x:=by
 unfold qR vg;constructor
 .rintro⟨q,h2⟩;have h8:x/64<8:=by
   rcases Nat.lt_or_ge (x/64) 8 with h3|h3;.exact h3
   .rw[h.DD _ h3 (by omega)]at h2;cases h2
  exact⟨by omega,(h.wr _ h8).1 h2⟩
 .rintro⟨q,h2⟩;exact⟨by omega,(h.wr _ (by omega)).2 h2⟩
theorem ahW{m:MS}{r:RS}(h:pD m r)(n:Nat)(u:n<8)(b:Bool):pD (px (o2 m n true) n b) (wq r n b):=by
 have zO:∀k,(wq r n b).ew k=if k=n then(if b then 2 else 1)else r.ew k:=fun k=>by
  unfold wq lB;by_cases z:k=n;.simp[z]
  .simp only[if_neg z];split<;>rfl
 have lb:∀x,(wq r n b).gM x=if r.ew n=0/\n*64<=x/\x<n*64+64 then 0 else r.gM x:=fun x=>by
  unfold wq lB;by_cases h0:r.ew n=0;.simp only[h0,if_true,true_and];rfl
  .simp only[if_neg h0];rw[if_neg (fun e=>h0 e.1)]
 have hf:∀k,(px (o2 m n true) n b).rd k=if k=n then true else m.rd k:=fun k=>J;have Au:∀k,(px (o2 m n true) n b).wt k=if k=n then b else m.wt k:=fun k=>J;have wb:∀x,(px (o2 m n true) n b).ei x=m.ei x:=fun x=>J;refine⟨fun k z=>?_,fun k z=>?_,fun k h8 eL=>?_,fun a ha L=>?_,fun a ha L=>?_,fun x=>h.NQ x,fun x=>?_⟩
 .rw[hf,zO];by_cases e:k=n;.rw[if_pos e,if_pos e];cases b<;>simp
  .rw[if_neg e,if_neg e];exact h.pg k z
 .rw[Au,zO];by_cases e:k=n;.rw[if_pos e,if_pos e];cases b<;>simp
  .rw[if_neg e,if_neg e];exact h.wr k z
 .rw[Au,if_neg (by omega)];exact h.DD k h8 eL
 .rw[wb,lb];rw[hf]at L;by_cases e:a/64=n
  .by_cases h0:r.ew n=0
   .rw[if_pos ⟨h0,by omega,by omega⟩];refine h.mQ a ha ?_;rw[e];cases hx:m.rd n with
     |false=>rfl
     |true=>exact absurd h0 ((h.pg n (by omega)).1 hx)
   .rw[if_neg (fun x=>h0 x.1)];refine h.gM a ha ?_;rw[e];exact(h.pg n (by omega)).2 h0
  .rw[if_neg e]at L;rw[if_neg (by omega)];exact h.gM a ha L
 .rw[hf]at L;by_cases e:a/64=n;.rw[if_pos e]at L;cases L
  .rw[if_neg e]at L;rw[wb];exact h.mQ a ha L
 .rw[lb];split;.decide
  .exact h.zo x
theorem OM(m:MS)(B x:Nat):(pM m B).ei x=if B*64<=x/\x<B*64+64 then 0 else m.ei x:=by
 show(if B*64<=x/\x<B*64+td.length then(td.getD (x-B*64) 0).toNat else m.ei x)=_;rw[Le];by_cases hx:B*64<=x/\x<B*64+64
 .rw[if_pos hx,if_pos hx];have hz:∀i,td.getD i 0=0:=fun i=>by unfold td;rw[List.getD_eq_getElem?_getD,List.getElem?_replicate];split<;>rfl
  rw[hz];rfl
 .rw[if_neg hx,if_neg hx]
theorem aas{m:MS}{r:RS}(h:pD m r)(B:Nat)(_hq:B<12):pD (pM m B) (lB r B 0):=by
 have hf:=anC m B;have Au:∀k,(pM m B).wt k=if k=B then false else m.wt k:=fun k=>J;have zO:∀k,(lB r B 0).ew k=if k=B then 0 else r.ew k:=fun k=>J;refine⟨fun k z=>?_,fun k z=>?_,fun k h8 eL=>?_,fun a ha L=>?_,fun a ha L=>?_,fun x=>?_,fun x=>h.zo x⟩
 .rw[hf,zO];by_cases e:k=B;.rw[if_pos e,if_pos e];simp
  .rw[if_neg e,if_neg e];exact h.pg k z
 .rw[Au,zO];by_cases e:k=B;.rw[if_pos e,if_pos e];simp
  .rw[if_neg e,if_neg e];exact h.wr k z
 .rw[Au];split;.rfl
  .exact h.DD k h8 eL
 .rw[hf]at L;by_cases e:a/64=B;.rw[if_pos e]at L;cases L
  .rw[if_neg e]at L;rw[OM,if_neg (by omega)];exact h.gM a ha L
 .rw[OM];by_cases e:B*64<=a/\a<B*64+64;.rw[if_pos e]
  .rw[if_neg e];rw[hf,if_neg (by omega)]at L;exact h.mQ a ha L
 .rw[OM];split;.decide
  .exact h.NQ x
theorem anm{m:MS}{r:RS}(h:pD m r)(a:Nat)(s:ByteArray)(hg:∀i,i<s.size->vg r (ch a i))(ha:a<18446744073709551616):pD (hJ m a s.data.toList) (mY r a s s.size):=by
 have wb:∀x,(hJ m a s.data.toList).ei x=if a<=x/\x<a+s.size then an s (x-a)else m.ei x:=fun x=>by show(if a<=x/\x<a+s.data.toList.length then _ else _)=_;rw[<-dy];rfl
 have Hl:∀x,(mY r a s s.size).gM x=if a<=x/\x<a+s.size then an s (x-a)else r.gM x:=fun x=>J;refine⟨h.pg,h.wr,h.DD,fun x hx L=>?_,fun x hx L=>?_,fun x=>?_,fun x=>?_⟩
 .rw[wb,Hl];split;.rfl
  .exact h.gM x hx L
 .rw[wb];by_cases e:a<=x/\x<a+s.size;.have O5:=ZX ha hg (by omega);have q:=hg (x-a) (by omega);unfold ch at q;rw[show a+(x-a)=x by omega,Nat.mod_eq_of_lt (by omega)]at q;have h2:m.rd (x/64)=true:=(h.pg _ (by omega)).2 (by rw[q.2];decide);rw[show m.rd (x/64)=false from L]at h2;cases h2
  .rw[if_neg e];exact h.mQ x hx L
 .rw[wb];split;.exact ea _ _
  .exact h.NQ x
 .rw[Hl];split;.exact ea _ _
  .exact h.zo x
theorem ahM{m:MS}{r:RS}(h:pD m r)(B:Nat)(h8:8<=B)(N:B<12)(yw:m.rd B=false)(s:ByteArray)(F:s.size<=64):pD (jI m B s.data.toList) (L2 r B s):=by
 have wb:∀x,(jI m B s.data.toList).ei x=if B*64<=x/\x<B*64+s.size then an s (x-B*64)else m.ei x:=fun x=>by show(if B*64<=x/\x<B*64+s.data.toList.length then _ else _)=_;rw[<-dy];rfl
 have Hl:∀x,(L2 r B s).gM x=if B*64<=x/\x<B*64+s.size then an s (x-B*64)else if B*64<=x/\x<B*64+64 then 0 else r.gM x:=fun x=>J;have zO:∀k,(L2 r B s).ew k=if k=B then 3 else r.ew k:=fun k=>J;have hf:=fun k=>aka m B k s.data.toList;have Au:∀k,(jI m B s.data.toList).wt k=m.wt k:=fun k=>J;refine⟨fun k z=>?_,fun k z=>?_,fun k h8 eL=>?_,fun a ha L=>?_,fun a ha L=>?_,fun x=>?_,fun x=>?_⟩
 .rw[hf,zO];by_cases e:k=B;.rw[if_pos e,if_pos e];simp
  .rw[if_neg e,if_neg e];exact h.pg k z
 .rw[Au,zO,if_neg (by omega)];exact h.wr k z
 .rw[Au];exact h.DD k h8 eL
 .rw[wb,Hl];rw[hf]at L;by_cases e1:B*64<=a/\a<B*64+s.size;.rw[if_pos e1,if_pos e1]
  .rw[if_neg e1,if_neg e1];by_cases e2:B*64<=a/\a<B*64+64;.rw[if_pos e2];exact h.mQ a ha (by rw[show a/64=B by omega];exact yw)
   .rw[if_neg e2];rw[if_neg (by omega)]at L;exact h.gM a ha L
 .rw[hf]at L;by_cases e:a/64=B;.rw[if_pos e]at L;cases L
  .rw[if_neg e]at L;rw[wb,if_neg (by omega)];exact h.mQ a ha L
 .rw[wb];split;.exact ea _ _
  .exact h.NQ x
 .rw[Hl];split;.exact ea _ _
  .split;.decide
   .exact h.zo x
end Go.Proofs.YtefdakbahplnbaaGreatDoor.Mm
namespace Go.Proofs.YtefdakbahplnbaaGreatDoor
open Go.RowKit
theorem Um:∀k:Fin 16,(⟨#[48,49,50,51,52,53,54,55,56,57,97,98,99,100,101,102]⟩:ByteArray).extract k.val (k.val+1)=bs [tu k.val]:=by decide+kernel
set_option maxHeartbeats 2000000 in set_option maxRecDepth 20000 in theorem ani(B:ByteArray)(N:B.size<=1000)(w:ac):ap ae 48 #[ad B] w fun e w'=>e=aq (ad (bs (iH B.data.toList)))/\Below w.heap.size w w':=by
 obtain⟨bd,hR⟩:=af (iH B.data.toList);rw[<-hR];have HR:=aa hR;clear hR;go_enter func48,ntmps48;go_wp2;go_loopw[3,4](fun eG aL wr=>∃i:Nat,i<=B.size/\aL=I R i/\eG=ad (bs (iH (B.data.toList.take i)))/\Hid (Below w.heap.size w wr))(fun _ aL _=>B.size-(intOf aL).toNat);case atStart=>exact⟨0,by omega,J,J,aa (Below.refl _ _)⟩
 case round=>
  obtain⟨i,hi,rfl,rfl,S⟩:=hrel;by_cases am:i<B.size
  .have hl:(i:Int)<B.size:=by omega
   have yL:=cd B i am;have HT:=aa (Yp B i am);have l6:(bs (iH (B.data.toList.take i))).size<=2000:=by rw[ct,Gf,List.length_take,<-dy];omega
   obtain⟨x,hx⟩:=af (an B i);have hx2:x<256:=by rw[hx];exact ea _ _
   rw[<-hx]at yL HT;obtain⟨T,hT⟩:=af (bs (iH (B.data.toList.take i)));have lC:=aa hT;rw[<-hT]at l6⊢;clear hx hT;go_wp2_with fail;go_quiet(fail);have HQ:=aa (show T++(⟨#[48,49,50,51,52,53,54,55,56,57,97,98,99,100,101,102]⟩:ByteArray).extract (x/16) (x/16+1)++(⟨#[48,49,50,51,52,53,54,55,56,57,97,98,99,100,101,102]⟩:ByteArray).extract (x%16) (x%16+1)=bs (iH (B.data.toList.take (i+1)))by rw[Um ⟨x/16,by omega⟩,Um ⟨x%16,by omega⟩,lC.out,b7,b7,HT.out,List.append_assoc];rfl);have HX:=aa (jq S.out nq);go_wp2;go_round;case rel=>exact⟨i+1,by omega,by go_num,by rw[<-HQ.out],HX⟩
   case measure=>simp[intOf];omega
  .as_aux_lemma=>
    have hl:¬(i:Int)<B.size:=by omega
    have HQ:=aa (show iH (B.data.toList.take i)=bd by rw[List.take_of_length_le (by rw[<-dy];omega),<-HR.out]);obtain⟨T,hT⟩:=af (bs (iH (B.data.toList.take i)));have lC:=aa hT;rw[<-hT];clear hT;go_wp2;go_ret;exact⟨by rw[<-HQ.out,<-lC.out];rfl,S.out⟩
end Go.Proofs.YtefdakbahplnbaaGreatDoor
namespace Go.Proofs.YtefdakbahplnbaaGreatDoor
open Go.RowKit Go.Sort
def Az:Array ag:=#[ad ⟨#[114,101,97,100]⟩,ad ⟨#[119,114,105,116,101]⟩,ad ⟨#[111,112,101,110]⟩,ad ⟨#[99,108,111,115,101]⟩,ad ⟨#[115,116,97,116]⟩,ad ⟨#[114,101,110,97,109,101]⟩,ad ⟨#[99,111,110,110,101,99,116]⟩,ad ⟨#[108,105,110,107]⟩,ad ⟨#[115,101,110,100]⟩]
set_option maxRecDepth 100000 in theorem aod(w:ac):ap ae 41 #[] w fun e w'=>e=aq (.agg Az)/\Below w.heap.size w w':=by go_enter func41,ntmps41;go_wp2_with(first|(refine wpList_buildTo J 124 _ J (U 1) J Az (by kernel_rfl) ?_)|(refine wpList_store_row J 124 _ _ J w.heap.size Az J J 124 _ (a7 _ _) (by kernel_rfl) (by kernel_rfl) (by kernel_rfl) ?_));rw[World.setRow_alloc_new];exact bodyPost_ret (v:= .agg Az) (results_cell_row J _ _ w.heap.size 124 Az (0,0) _ J (a7 _ _) underlying124 J (by kernel_rfl)) J ⟨J,(Below.refl _ _).alloc (Nat.le_refl _) _⟩
theorem anX(nr:Nat)(h:nr<=8)(w:ac):(Instr.index 124 (.agg Az) (I R nr)).run ae w= .ok (ad (bs (qa nr))) w:=by rcases sf h with rfl|rfl|rfl|rfl|rfl|rfl|rfl|rfl|rfl<;>kernel_rfl
set_option maxRecDepth 20000 in theorem acN(a:bG)(h:dl a=0)(w:ac):ap ae 29 #[fe a] w fun e w'=>e=aq (ad (bs (cr 32 (e3 a))))/\Below w.heap.size w w':=by
 unfold fe;rcases vu h with rfl|rfl|⟨n,q,h2,rfl⟩;.go_enter func29,ntmps29;go_wp2;go_ret;exact⟨J,ai _ _⟩
 .go_enter func29,ntmps29;go_wp2;go_ret;exact⟨J,ai _ _⟩
 .have HD:=JE n (by omega);have HE:=aa (show bs [100,101,110,121,32]++bs (aQ n)=bs (cr 32 (e3 ⟨2,n⟩))by rw[b7];simp[e3,cr,o_]);obtain⟨B,N⟩:∃B:ByteArray,B=⟨(aQ n).toArray⟩:=⟨_,J⟩;have Kl:B=bs (aQ n):=N;rw[<-N]at HD;rw[<-Kl]at HE;have ks:B.size<=20:=by rw[Kl,ct];exact nDigits_le20 n (by omega)
  clear N Kl h;simp only;go_enter func29,ntmps29;go_wp2_with(go_at_call 28;refine(HD _).mono ?_;rintro e w'⟨rfl,hb⟩);go_ret;exact⟨by rw[<-HE.out];rfl,ax (ai _ _) hb⟩
end Go.Proofs.YtefdakbahplnbaaGreatDoor
