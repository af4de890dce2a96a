/- Policies: what they are, their words and lines, what is wrong with them; how texts are cut and joined. -/
import Derived.Test.YtefdakbahplnbaaGreatDoorK5
import Derived.Test.YtefdakbahplnbaaGreatDoorK6
import Derived.Lib.ParseIntB
import Derived.Lib.Split
import Derived.Lib.TrimByte
open Go.Proofs.Tryz
open Bool renaming and_eq_true->lR
open ByteArray renaming empty->fH
open Classical renaming byContradiction->pj
open Go renaming Addr->bl,Value->ag,World->ac
open Go.IntKind renaming i64->R,u64->ah
open Go.Lib renaming decDigits->aQ,nDigits->rq,parseUintB->tM,parseUintM->FH,size_eq->dy,trimSuffix->AN
open Go.Value renaming int->I,slice->ak
open List renaming append_nil->ry,cons_append->rv,findIdx?->N4,getD_eq_getElem?_getD->cI,getElem?_eq_getElem->cq,getLast?_eq_some_iff->acs,length_append->cl,length_cons->fh,mem_append->jC,mem_cons->kh,mem_map->tU,mem_singleton->jB,not_mem_nil->xc,singleton_append->acq,tail_cons->N6,take_append_drop->AR
open List.findIdx? renaming go->N5
open Nat renaming le_refl->aA,lt_of_lt_of_le->dk,zero_le->oz
open Option renaming getD_some->vE,map_some->xg,none->ab,some->U
open Option.some renaming injEq->cm
open Prod.mk renaming injEq->eg
namespace Go.Proofs.YtefdakbahplnbaaGreatDoor
abbrev W8:=List UInt8
structure bG where
 aF:Int
 aU:Int
structure NT where
 ip:Nat
 bits:Int
 lo:Int
 hi:Int
structure CD where
 a6:Int
 op:Int
 v:Nat
 m:Nat
 ny:ByteArray
 dr:NT
structure RL where
 nr:Int
 bq:List CD
 dO:bG
structure bj where
 bw:List RL
 bg:bG
def dl(a:bG):Nat:=if a.aF≠1/\a.aF≠2/\a.aF≠3 then 3 else if a.aF≠2/\a.aU≠0 then 3 else if a.aF=2/\(a.aU<1\/255<a.aU)then 1 else 0
def S1:List (List Nat):=[[1,1,0,0],[1,1,0,0],[2,1,1,0],[1,0,0,0],[2,0,0,0],[2,2,0,0],[1,3,0,0],[2,2,1,0],[1,1,3,1]]
def a1(nr a6:Nat):Nat:=(S1.getD nr []).getD a6 0
def fA(op:Int):Nat:=if op=8 then 2 else if op=9 then 3 else 1
def cB(n:NT):Prop:=n.ip=0/\n.bits=0/\n.lo=0/\n.hi=0
instance(n:NT):Decidable (cB n):=by unfold cB;infer_instance
def bO(c:CD):Prop:=(c.m≠0/\c.op≠7)\/(c.v≠0/\(c.op=8\/c.op=9))\/(c.ny.size≠0/\c.op≠8)\/(¬cB c.dr/\c.op≠9)
instance(c:CD):Decidable (bO c):=by unfold bO;infer_instance
def nA(p:ByteArray):Nat:=match Gl.aqp p with| .inl n=>n| .inr _=>0
def RM(n:NT):Nat:=cf n.ip n.bits n.lo n.hi
def hK(nr:Nat)(c:CD):Nat:=if c.a6<0\/3<c.a6\/c.op<1\/9<c.op then 1 else if a1 nr c.a6.toNat≠fA c.op\/bO c then 3 else if c.op=8 then nA c.ny else if c.op=9 then RM c.dr else 0
def e_:List Nat->Nat|[]=>0|x::r=>if x=0 then e_ r else x
def g_(r:RL):Nat:=if r.nr<0\/8<r.nr then 1 else if 4<r.bq.length then 2 else if e_ (r.bq.map (hK r.nr.toNat))=0 then dl r.dO else e_ (r.bq.map (hK r.nr.toNat))
def cM(p:bj):Nat:=if 12<p.bw.length then 2 else if dl p.bg=0 then e_ (p.bw.map g_)else dl p.bg
theorem Gy:∀{l:List Nat},e_ l=0↔∀x∈l,x=0
 |[]=>by simp[e_]
 |x::r=>by
  by_cases h:x=0;.simp[e_,h,Gy (l:=r)]
  .simp[e_,h]
/-! Words. -/
def tC:W8:=[97,108,108,111,119]
def tk:W8:=[107,105,108,108]
def o_:W8:=[100,101,110,121]
def rQ:W8:=[101,108,115,101]
def zx:W8:=[105,102]
def yt:W8:=[97,110,100]
def cG:List W8:=[[61,61],[33,61],[60],[60,61],[62],[62,61],[38],[126],[105,110]]
def mi:List W8:=[[114,101,97,100],[119,114,105,116,101],[111,112,101,110],[99,108,111,115,101],[115,116,97,116],[114,101,110,97,109,101],[99,111,110,110,101,99,116],[108,105,110,107],[115,101,110,100]]
def k5(op:Int):W8:=cG.getD (op.toNat-1) []
def qa(nr:Int):W8:=mi.getD nr.toNat []
def e3(a:bG):List W8:=if a.aF=1 then[tC]else if a.aF=3 then[tk]else[o_,aQ a.aU.toNat]
def Gs(n:NT):W8:=mW n.ip n.bits.toNat n.lo.toNat n.hi.toNat
def fX(c:CD):List W8:=aQ c.a6.toNat::k5 c.op::(if c.op=7 then[aQ c.m,[61,61],aQ c.v]else if c.op=8 then[34::(c.ny.data.toList++[34])]else if c.op=9 then[Gs c.dr]else[aQ c.v])
def io:Bool->List CD->List W8|_,[]=>[]|f,c::r=>(if f then zx else yt)::(fX c++io false r)
def gi(r:RL):List W8:=e3 r.dO++qa r.nr::io true r.bq
def cr(c:UInt8):List W8->W8|[]=>[]|[w]=>w|w::x::r=>w++c::cr c (x::r)
def dS(p:bj):W8:=cr 32 (rQ::e3 p.bg)++10::p.bw.flatMap fun r=>cr 32 (gi r)++[10]
def ck(c:UInt8):W8->List W8|[]=>[[]]|x::r=>if x=c then[]::ck c r else match ck c r with|[]=>[[x]]|h::t=>(x::h)::t
theorem BS(c:UInt8):∀l:W8,ck c l≠[]
 |[]=>by simp[ck]
 |x::r=>by
  unfold ck;split;.simp
  .split<;>simp
theorem F1(c:UInt8)(b:W8):∀a:W8,c∉a->ck c (a++c::b)=a::ck c b|[],_=>by simp[ck]|x::r,h=>by have hx:x≠c:=fun e=>h (by simp[e]);rw[rv,ck,if_neg hx,F1 c b r (fun e=>h (by simp[e]))]
theorem GI(c:UInt8):∀a:W8,c∉a->ck c a=[a]|[],_=>J|x::r,h=>by have hx:x≠c:=fun e=>h (by simp[e]);rw[ck,if_neg hx,GI c r (fun e=>h (by simp[e]))]
theorem E_(c:UInt8):∀ws:List W8,ws≠[]->(∀w∈ws,c∉w)->ck c (cr c ws)=ws|[],h,_=>absurd J h|[w],_,h=>by rw[cr,GI c w (h w (by simp))]|w::x::r,_,h=>by rw[cr,F1 c _ w (h w (by simp)),E_ c (x::r) (by simp) fun al hy=>h al (by simp[hy])]
theorem join_cons(c:UInt8)(w:W8):∀r:List W8,r≠[]->cr c (w::r)=w++c::cr c r|[],h=>absurd J h|_::_,_=>J
theorem Ln(c:UInt8)(b:List W8)(hb:b≠[]):∀a:List W8,a≠[]->cr c (a++b)=cr c a++c::cr c b|[],h=>absurd J h|[w],_=>by rw[acq,join_cons c w b hb];rfl|w::x::r,_=>by rw[rv,rv,cr,<-rv,Ln c b hb (x::r) (by simp),cr];simp
theorem LN(c:UInt8):∀l:W8,cr c (ck c l)=l
 |[]=>J
 |x::r=>by
  have ih:=LN c r;unfold ck;split;.rename_i hx;rw[join_cons c _ _ (BS c r),ih,hx];rfl
  .split;.rename_i he;exact absurd he (BS c r)
   .rename_i h t he;rw[he]at ih;cases t with
     |nil=>rw[<-ih];rfl
     |cons al aI=>rw[<-ih];rfl
theorem Zc(c:UInt8):∀ls:List W8,(∀w∈ls,c∉w)->ck c (ls.flatMap fun w=>w++[c])=ls++[[]]
 |[],_=>J
 |w::r,h=>by
  have e:(List.flatMap (fun w=>w++[c]) (w::r))=w++c::List.flatMap (fun w=>w++[c]) r:=by simp
  rw[e,F1 c _ w (h w (by simp)),Zc c r fun al hy=>h al (by simp[hy])];rfl
theorem Q4(c:UInt8):∀ls:List W8,cr c (ls++[[]])=ls.flatMap fun w=>w++[c]|[]=>J|w::r=>by rw[rv,join_cons c w _ (by simp),Q4 c r];simp
theorem nDigits_le20(n:Nat)(h:n<18446744073709551616):(aQ n).length<=20:=by
 rw[Lib.decDigits_length];have step:∀k m,m<10^(k+1)->rq m<=k+1:=by
  intro k;induction k with
   |zero=>intro m hm;unfold rq;rw[dif_pos (by simpa using hm)];exact aA _
   |succ k ih=>
    intro m hm;unfold rq;split;.omega
    .have:=ih (m/10) (by rw[Nat.div_lt_iff_lt_mul (by omega)];rwa[Nat.pow_succ]at hm);omega
 exact step 19 n (by omega)
theorem vT(n:Nat)(h:n<18446744073709551616):cz (aQ n)=true/\bW (aQ n)=n:=by
 have hl:=nDigits_le20 n h;have H:¬(20<(aQ n).length\/(aQ n).all eD=false):=by rw[yB];simp;omega
 have u:bW (aQ n)=n:=by unfold bW;rw[if_neg H,BO];exact Nat.mod_eq_of_lt h
 refine⟨?_,u⟩;unfold cz;rw[if_neg H,u];simp
theorem AY{w:W8}(h:cz w=true):w=aQ (bW w):=by
 unfold cz at h;split at h;.cases h
 .exact(eq_of_beq h).symm
theorem wO(w:W8):bW w<18446744073709551616:=by
 unfold bW;split;.omega
 .exact Nat.mod_lt _ (by omega)
theorem ZE:∀(l:W8)(n:Nat),n<=js n l|[],n=>aA _|c::r,n=>by rw[El];have:=ZE r (n*10+(c.toNat-48));omega
theorem P0:∀(l:W8)(dM:Nat),l.all eD=true->js dM l<18446744073709551616->FH (2^64-1) dM l= .ok (js dM l)|[],_,_,_=>J|c::r,dM,ha,hv=>by rw[List.all_cons,lR]at ha;have hd:=ha.1;unfold eD at hd;rw[lR,decide_eq_true_eq,decide_eq_true_eq]at hd;rw[El]at hv⊢;have hg:=ZE r (dM*10+(c.toNat-48));rw[FH,if_pos hd,if_neg (by omega),if_neg (by omega),P0 r _ ha.2 hv]
def kR(w:W8):Nat:=match tM 64 w with| .ok n=>n|_=>0
theorem As(n:Nat)(h:n<18446744073709551616):kR (aQ n)=n:=by unfold kR tM;rw[if_neg (R_ n),P0 _ 0 (yB n) (by rw[BO];exact h),BO]
def j_(w:W8):Int:=match mi.findIdx? (·==w)with|U i=>i|ab=>-1
def sq(w:W8):Nat:=match cG.findIdx? (·==w)with|U i=>i+1|ab=>0
def um(n:Nat):Int:=R.wrap n
theorem Hh(n:Nat)(h:n<9223372036854775808):um n=n:=by unfold um;rw[IntKind.wrap_i64];omega
def Ay(w:W8):W8:=Lib.trimB w 34
/-! The code's reading: what is read, and the words that are left. -/
def kG(l:List W8):bG×List W8:=if l.headD []=tC then(⟨1,0⟩,l.tail)else if l.headD []=tk then(⟨3,0⟩,l.tail)else if l.headD []=o_ then(⟨2,um (kR (l.tail.headD []))⟩,l.tail.tail)else(⟨0,0⟩,l.tail)
def bZ:NT:=⟨0,0,0,0⟩
def Cj(w:W8):NT:=match ca w with|U (ip,b,lo,hi)=>⟨ip,b,lo,hi⟩|ab=>bZ
def mn(l:List W8):CD×List W8:=let a6:=um (kR (l.headD []));let op:=sq (l.tail.headD []);let r:=l.tail.tail;if op=8 then(⟨a6,op,0,0,⟨(Ay (r.headD [])).toArray⟩,bZ⟩,r.tail)else if op=9 then(⟨a6,op,0,0,fH,Cj (r.headD [])⟩,r.tail)else if op=7 then(⟨a6,op,kR (r.tail.tail.headD []),kR (r.headD []),fH,bZ⟩,r.tail.tail.tail)else(⟨a6,op,kR (r.headD []),0,fH,bZ⟩,r.tail)
theorem SG(l:List W8):(mn l).2.length<=l.length:=by
 unfold mn;simp only;split;.simp;omega
 .split;.simp;omega
  .split;.simp;omega
   .simp;omega
def kN:Nat->List W8->List CD|0,_=>[]|n+1,l=>if l=[]then[]else(mn l.tail).1::kN n (mn l.tail).2
def lG(bp:W8):RL:=let l:=ck 32 bp;let r:=(kG l).2;⟨j_ (r.headD []),kN r.tail.length r.tail,(kG l).1⟩
def zP(s:W8):W8:=AN s [10]
def rC(s:W8):bj:=⟨(ck 10 (zP s)).tail.map lG,(kG ((ck 32 ((ck 10 (zP s)).headD [])).tail)).1⟩
/-! The document's. -/
def xb:List W8->Option (bG×Nat)|[]=>ab|x::_=>if cz x=true/\bW x<1000 then U (⟨2,bW x⟩,2)else ab
def hk:List W8->Option (bG×Nat)|[]=>ab|w::r=>if w=tC then U (⟨1,0⟩,1)else if w=tk then U (⟨3,0⟩,1)else if w=o_ then xb r else ab
def ng(w:W8):Nat:=match(cG.take 6).findIdx? (·==w)with|U i=>i+1|ab=>0
def yN(a x:W8):List W8->Option (CD×Nat)|al::aI::_=>if al=[61,61]/\cz x=true/\cz aI=true then U (⟨bW a,7,bW aI,bW x,fH,bZ⟩,5)else ab|_=>ab
def ee:List W8->Option (CD×Nat)|a::s::x::r=>if cz a=true/\bW a<=3 then if s=[38]then yN a x r else if s=[126]then(if 2<=x.length/\x.head?=U 34/\x.getLast?=U 34 then U (⟨bW a,8,0,0,⟨x.tail.dropLast.toArray⟩,bZ⟩,3)else ab)else if s=[105,110]then(match ca x with|U (ip,b,lo,hi)=>U (⟨bW a,9,0,0,fH,⟨ip,b,lo,hi⟩⟩,3)|ab=>ab)else if ng s≠0/\cz x=true then U (⟨bW a,ng s,bW x,0,fH,bZ⟩,3)else ab else ab|_=>ab
def fq:Nat->Bool->List W8->Option (List CD)|_,_,[]=>U []|0,_,_::_=>ab|n+1,f,w::r=>if w=(if f then zx else yt)then(match ee r with|U (c,k)=>(fq n false (r.drop k)).map (c::·)|ab=>ab)else ab
def ke(l:List W8):Option RL:=match hk l with|U (a,n)=>if n<l.length then(match fq l.length true (l.drop (n+1))with|U cs=>if j_ (l.getD n [])<0 then ab else U ⟨j_ (l.getD n []),cs,a⟩|ab=>ab)else ab|ab=>ab
def jH:List W8->Option (List RL)|[]=>U []|w::r=>match ke (ck 32 w)with|U x=>(jH r).map (x::·)|ab=>ab
def yp(l:List W8):Option bG:=match l with|[]=>ab|w::r=>if w=rQ then(match hk r with|U (a,n)=>if n=r.length then U a else ab|ab=>ab)else ab
def tq(s:W8):Option bj:=let ls:=ck 10 s;if ls.length<2\/14<ls.length\/ls.getLast?≠U []then ab else match yp (ck 32 (ls.headD []))with|U a=>(match jH ls.tail.dropLast with|U rs=>if cM ⟨rs,a⟩=0 then U ⟨rs,a⟩else ab|ab=>ab)|ab=>ab
end Go.Proofs.YtefdakbahplnbaaGreatDoor
namespace Go.Proofs.YtefdakbahplnbaaGreatDoor.Gl
open Go.RowKit
def lD(n:Nat):Prop:=33<=n/\n<=126/\n≠34
theorem V3{n:Nat}(h:lq n=true):lD n:=by simp[lq]at h;unfold lD;omega
theorem aiU{n:Nat}(h:sL n=true):lD n:=by simp[sL]at h;unfold lD;omega
theorem akx{n:Nat}(h:qV n=true):lD n:=by simp[qV]at h;unfold lD;omega
theorem ahX(s:ByteArray)(a:Nat)(ha:a<s.size)(h:eb s a≠0):∀i,a<=i->i<a+eb s a->lD (aqh s i):=by
 intro i q h2;unfold eb fO at h h2;by_cases n0:lq (aqh s a)=true
 .have p0:=V3 n0;rw[if_pos n0]at h h2;by_cases h3:s.size-a<2
  .rw[if_pos h3]at h2;obtain rfl:i=a:=by omega
   exact p0
  .rw[if_neg h3]at h h2;by_cases h4:aqh s (a+1)=45
   .rw[if_pos h4]at h h2;by_cases h5:s.size-a<3;.rw[if_pos h5]at h;exact absurd J h
    .rw[if_neg h5]at h h2;by_cases h6:lq (aqh s (a+2))=true
     .rw[if_pos h6]at h h2;by_cases h7:aqh s (a+2)<aqh s a;.rw[if_pos h7]at h;exact absurd J h
      .rw[if_neg h7]at h2;have p2:=V3 h6;rcases(by omega:i=a\/i=a+1\/i=a+2)with rfl|rfl|rfl;.exact p0
       .rw[h4];unfold lD;omega
       .exact p2
     .rw[if_neg h6]at h;exact absurd J h
   .rw[if_neg h4]at h2;obtain rfl:i=a:=by omega
    exact p0
 .rw[if_neg n0]at h;exact absurd J h
theorem ZH:∀(k:Nat)(s:ByteArray)(a:Nat)(f:Nat->Bool)(b:Nat)(g:Nat->Bool),db k s a f=U (b,g)->(∀i,a<=i->i<b->lD (aqh s i))/\(b<s.size->aqh s b=93)
 |0,_,_,_,_,_,h=>by simp[db]at h
 |k+1,s,a,f,b,g,h=>by
  rw[db]at h;split at h
  .rename_i H;split at h;.simp at h
   .rename_i hm;have ih:=ZH k s _ _ b g h;refine⟨fun i q h2=>?_,ih.2⟩;by_cases hi:i<a+eb s a;.exact ahX s a H.1 hm i q hi
    .exact ih.1 i (by omega) h2
  .rename_i H;simp only[cm,eg]at h;obtain⟨rfl,_⟩:=h;refine⟨fun i q h2=>by omega,fun hb=>?_⟩;exact pj fun u=>H ⟨hb,u⟩
theorem amo{s:ByteArray}{f:Nat->Bool}{m:Bool}{n:Nat}(h:cw s=U (f,m,n)):∀i,i<n->lD (aqh s i):=by
 unfold cw at h;split at h
 .rename_i bN;simp only[mg,lR,decide_eq_true_eq,beq_iff_eq]at bN;simp only[cm,eg]at h;intro i hi;rcases(by omega:i=0\/i=1)with rfl|rfl;.rw[bN.1.2];unfold lD;omega
  .rw[bN.2];unfold lD;omega
 .split at h
  .rename_i h0;simp only[cm,eg]at h;intro i hi;obtain rfl:i=0:=by omega
   rw[h0];unfold lD;omega
  .split at h
   .rename_i h0;simp only[cm,eg]at h;intro i hi;obtain rfl:i=0:=by omega
    rw[h0];unfold lD;omega
   .split at h
    .rename_i h0;unfold tF at h;cases H:e4 s with
      |none=>simp[H]at h
      |some x=>
       obtain⟨g,k⟩:=x;simp only[H,xg,cm,eg]at h;obtain⟨rfl,rfl,rfl⟩:=h;unfold e4 at H;cases cX:db (s.size+1) s (g' s) fun _=>false with
        |none=>simp[cX,f_]at H
        |some al=>
         obtain⟨b,Df⟩:=al;have hp:=ZH _ _ _ _ _ _ cX;simp only[cX,f_]at H;split at H;.simp at H
         .rename_i hb;simp only[cm,eg]at H;have nR:g' s<=s.size/\(g' s=1\/g' s=2/\aqh s 1=33):=by
           unfold g';split;.rename_i u;simp only[kT,lR,decide_eq_true_eq,beq_iff_eq]at u;exact⟨by omega, .inr ⟨J,u.2⟩⟩
           .refine⟨?_, .inl J⟩;by_cases F:s.size=0
            .have:aqh s 0=0:=by unfold aqh;rw[dy]at F;rw[List.length_eq_zero_iff.1 F];rfl
             omega
            .omega
          have n4:=Lk _ _ _ _ _ _ nR.1 cX;have nk:=hp.2 (by omega);intro i hi;by_cases q:i<g' s
          .rcases(by omega:i=0\/i=1/\aqh s 1=33)with rfl|⟨rfl,Yh⟩;.rw[h0];unfold lD;omega
           .rw[Yh];unfold lD;omega
          .by_cases h2:i<b;.exact hp.1 i (by omega) h2
           .obtain rfl:i=b:=by omega
            rw[nk];unfold lD;omega
    .split at h
     .rename_i h0;unfold mL at h;split at h
      .rename_i he;simp only[cm,eg]at h;intro i hi;rcases(by omega:i=0\/i=1)with rfl|rfl;.rw[h0];unfold lD;omega
       .exact aiU he.2
      .simp at h
     .split at h
      .rename_i h0;simp only[cm,eg]at h;intro i hi;obtain rfl:i=0:=by omega
       exact akx h0
      .simp at h
theorem UM:∀(k:Nat)(s:ByteArray)(a:Nat)(Z:List Part),a<=s.size->fi k s a=U Z->∀i,a<=i->i<s.size->lD (aqh s i)
 |0,_,_,_,_,h=>by simp[fi]at h
 |k+1,s,a,Z,ha,h=>by
  rw[fi]at h;split at h
  .rename_i am;split at h;.simp at h
   .rename_i f m n M;have hb:=rX (by rw[size_extract];omega) M;rw[size_extract]at hb;cases L:fi k s (a+n)with
     |none=>simp[L]at h
     |some qs=>
      intro i q h2;by_cases hi:i<a+n;.have:=amo M (i-a) (by omega);rwa[qm s a (i-a) ha,show a+(i-a)=i by omega]at this
      .exact UM k s (a+n) qs (by omega) L i (by omega) h2
  .intro i q h2;omega
theorem aiV{p:ByteArray}{Z:List Part}(h:aqp p= .inr Z):∀b∈p.data.toList,lD b.toNat:=by
 unfold aqp at h;split at h;.cases h
 .split at h;.cases h
  .split at h;.cases h
   .rename_i qs N;intro b hb;obtain⟨i,hi,rfl⟩:=List.mem_iff_getElem.1 hb;have:=UM _ p 0 qs (oz _) N i (oz _) (by rw[dy];exact hi);unfold aqh at this;rwa[cI,cq hi,vE]at this
theorem aon{p:ByteArray}{Z:List Part}(h:aqp p= .inr Z):p.size<=24/\p.size≠0:=by
 unfold aqp at h;split at h;.cases h
 .split at h;.cases h
  .omega
end Go.Proofs.YtefdakbahplnbaaGreatDoor.Gl
namespace Go.Proofs.YtefdakbahplnbaaGreatDoor
def mf(n:Int):Prop:=-9223372036854775808<=n/\n<=9223372036854775807
theorem xL{n:Int}(h0:0<=n)(q:n<=4294967296):mf n:=by unfold mf;omega
theorem eF{k:Nat}(h:k<=4294967296):mf (k:Int):=by unfold mf;omega
structure Db(a:bG):Prop where
 aF:mf a.aF
 aU:mf a.aU
structure LF(n:NT):Prop where
 ip:n.ip<4294967296
 bits:mf n.bits
 lo:mf n.lo
 hi:mf n.hi
structure jJ(c:CD):Prop where
 a6:mf c.a6
 op:mf c.op
 v:c.v<18446744073709551616
 m:c.m<18446744073709551616
 dr:LF c.dr
structure uJ(r:RL):Prop where
 nr:mf r.nr
 bq:∀c∈r.bq,jJ c
 dO:Db r.dO
structure I4(p:bj):Prop where
 bw:∀r∈p.bw,uJ r
 bg:Db p.bg
theorem vu{a:bG}(h:dl a=0):a=⟨1,0⟩\/a=⟨3,0⟩\/∃n:Nat,1<=n/\n<=255/\a=⟨2,n⟩:=by
 obtain⟨k,e⟩:=a;unfold dl at h;simp only at h;split at h;.cases h
 .split at h;.cases h
  .split at h;.cases h
   .rename_i q h2 h3;rcases(by omega:k=1\/k=3\/k=2)with rfl|rfl|rfl;.left;congr;omega
    .right;left;congr;omega
    .right;right;exact⟨e.toNat,by omega,by omega,by congr;omega⟩
inductive nM:CD->Prop|wF(a k v:Nat)(ha:a<=3)(q:1<=k)(h6:k<=6)(hv:v<18446744073709551616):nM ⟨a,k,v,0,fH,bZ⟩|wX(a v m:Nat)(ha:a<=3)(hv:v<18446744073709551616)(hm:m<18446744073709551616):nM ⟨a,7,v,m,fH,bZ⟩|v_(a:Nat)(g:ByteArray)(ha:a<=3)(hg:nA g=0):nM ⟨a,8,0,0,g,bZ⟩|dr(a ip b lo hi:Nat)(ha:a<=3)(bt:ip<4294967296)(M:cf ip b lo hi=0):nM ⟨a,9,0,0,fH,⟨ip,b,lo,hi⟩⟩
theorem ahC{g:ByteArray}(h:g.size=0):g=fH:=ByteArray.size_eq_zero_iff.1 h
theorem ajx{nr:Nat}{c:CD}(h:hK nr c=0)(H:jJ c):nM c:=by
 obtain⟨a6,op,v,m,g,⟨ip,b,lo,hi⟩⟩:=c;obtain⟨_,_,hv,hm,⟨bt,_,_,_⟩⟩:=H;unfold hK at h;simp only at h hv hm bt;split at h;.cases h
 .rename_i h0;split at h;.cases h
  .rename_i q;rw[not_or]at q;have hu:=q.2;unfold bO cB at hu;simp only[not_or,not_and,Classical.not_not]at hu;obtain⟨u1,An,u3,u4⟩:=hu;obtain⟨a,rfl⟩:∃a:Nat,a6=a:=⟨a6.toNat,by omega⟩;obtain⟨k,rfl⟩:∃k:Nat,op=k:=⟨op.toNat,by omega⟩;have ha:a<=3:=by omega
   by_cases Jr:k=8
   .subst Jr;rw[if_pos (by omega)]at h;obtain rfl:m=0:=pj fun e=>by have:=u1 e;omega
    obtain rfl:v=0:=pj fun e=>by have:=An e;omega
    obtain⟨rfl,rfl,rfl,rfl⟩:ip=0/\b=0/\lo=0/\hi=0:=pj fun e=>by have:=u4 (by simpa using e);omega
    exact nM.v_ a g ha h
   .have an_:=ahC (pj fun e=>Jr (by have:=u3 e;omega));subst an_;by_cases agF:k=9
    .subst agF;rw[if_neg (by omega),if_pos (by omega)]at h;obtain rfl:m=0:=pj fun e=>by have:=u1 e;omega
     obtain rfl:v=0:=pj fun e=>by have:=An e;omega
     have M:=rM (show cf ip b lo hi=0 from h);obtain⟨b,rfl⟩:∃k:Nat,b=k:=⟨b.toNat,by omega⟩;obtain⟨lo,rfl⟩:∃k:Nat,lo=k:=⟨lo.toNat,by omega⟩;obtain⟨hi,rfl⟩:∃k:Nat,hi=k:=⟨hi.toNat,by omega⟩;exact nM.dr a ip b lo hi ha bt h
    .obtain⟨rfl,rfl,rfl,rfl⟩:ip=0/\b=0/\lo=0/\hi=0:=pj fun e=>by have:=u4 (by simpa using e);omega
     by_cases Mb:k=7;.subst Mb;exact nM.wX a v m ha hv hm
     .obtain rfl:m=0:=pj fun e=>by have:=u1 e;omega
      exact nM.wF a k v ha (by omega) (by omega) hv
theorem Jp{l:List W8}{w:W8}{i:Nat}(h:l.findIdx? (·==w)=U i):l.getD i []=w/\i<l.length:=by obtain⟨hi,q,_⟩:=List.findIdx?_eq_some_iff_getElem.1 h;refine⟨?_,hi⟩;rw[cI,cq hi,vE];exact eq_of_beq q
theorem US{w:W8}(h:¬j_ w<0):qa (j_ w)=w/\j_ w<=8:=by
 unfold j_ at h⊢;cases M:mi.findIdx? (·==w)with
  |none=>rw[M]at h;exact absurd (by decide) h
  |some i=>
   have:=Jp M;refine⟨?_,?_⟩;.unfold qa;simpa using this.1
   .have h2:=this.2;simp[mi]at h2⊢;omega
theorem sf{k:Nat}(h:k<=8):k=0\/k=1\/k=2\/k=3\/k=4\/k=5\/k=6\/k=7\/k=8:=by omega
theorem aby{nr:Int}(h0:0<=nr)(h8:nr<=8):j_ (qa nr)=nr:=by obtain⟨k,rfl⟩:∃k:Nat,nr=k:=⟨nr.toNat,by omega⟩;rcases sf (show k<=8 by omega)with rfl|rfl|rfl|rfl|rfl|rfl|rfl|rfl|rfl<;>decide
theorem FC{k:Nat}(q:1<=k)(h6:k<=6):k=1\/k=2\/k=3\/k=4\/k=5\/k=6:=by omega
theorem ak5{w:W8}(h:ng w≠0):k5 (ng w)=w/\ng w<=6:=by
 unfold ng at h⊢;cases M:(cG.take 6).findIdx? (·==w)with
  |none=>rw[M]at h;exact absurd J h
  |some i=>have q:=Jp M;have h2:=q.2;simp[cG]at h2;refine⟨?_,by simp only;omega⟩;rw[<-q.1];rcases FC (k:=i+1) (by omega) (by omega)with h|h|h|h|h|h<;>(obtain rfl:i=_:=Nat.succ.inj h;rfl)
theorem aeY{g:W8}(h:(34:UInt8)∉g):Ay (34::(g++[34]))=g:=by
 unfold Ay Lib.trimB Lib.trimLeftB Lib.trimRightB;have e:(34::(g++[34])).reverse=34::(g.reverse++[34]):=by simp
 rw[e];cases hg:g.reverse with
  |nil=>
   have:g=[]:=by simpa using hg
   subst this;decide
  |cons x r=>
   have hx:x≠34:=fun e=>h (by rw[<-List.mem_reverse,hg,e];simp);have e1:List.dropWhile (·==(34:UInt8)) (34::(x::r++[34]))=x::r++[34]:=by simp[hx]
   rw[e1,<-hg];simp only[List.reverse_append,List.reverse_reverse,List.reverse_cons,List.reverse_nil,List.nil_append,acq];cases g with
    |nil=>simp
    |cons al aI=>have hy:al≠34:=fun e=>h (by simp[e]);simp[hy]
theorem DC{g:ByteArray}(h:nA g=0):(∀b∈g.data.toList,Gl.lD b.toNat)/\g.size<=24:=by
 unfold nA at h;cases hp:Gl.aqp g with
  |inl n=>
   rw[hp]at h;simp only at h;unfold Gl.aqp at hp;repeat' split at hp
   all_goals simp at hp
   all_goals omega
  |inr Z=>exact⟨Gl.aiV hp,(Gl.aon hp).1⟩
theorem alV{g:ByteArray}(h:nA g=0):(34:UInt8)∉g.data.toList:=fun hm=>by have:=((DC h).1 34 hm).2.2;exact this J
theorem aop{c:CD}(h:nM c)(r:List W8):mn (fX c++r)=(c,r):=by
 cases h with
  |wF a k v ha q h6 hv=>have e1:=As a (by omega);have e2:=As v hv;have mt:=Hh a (by omega);rcases FC q h6 with rfl|rfl|rfl|rfl|rfl|rfl<;>simp[mn,fX,k5,cG,sq,e1,e2,mt,N4,N5]
  |wX a v m ha hv hm=>have e1:=As a (by omega);have e2:=As v hv;have Hb:=As m hm;have mt:=Hh a (by omega);simp[mn,fX,k5,cG,sq,e1,e2,mt,Hb,N4,N5]
  |v_ a g ha hg=>have e1:=As a (by omega);have mt:=Hh a (by omega);have e2:=aeY (alV hg);simp[mn,fX,k5,cG,sq,e1,e2,mt,N4,N5]
  |dr a ip b lo hi ha bt M=>have e1:=As a (by omega);have mt:=Hh a (by omega);have e2:=QS bt M;simp[mn,fX,k5,cG,sq,e1,mt,Cj,Gs,e2,N4,N5]
theorem adF{c:CD}(h:nM c)(r:List W8):ee (fX c++r)=U (c,(fX c).length):=by
 cases h with
  |wF a k v ha q h6 hv=>have e1:=vT a (by omega);have e2:=vT v hv;rcases FC q h6 with rfl|rfl|rfl|rfl|rfl|rfl<;>simp[ee,fX,k5,cG,ng,e1,e2,ha,N4,N5]
  |wX a v m ha hv hm=>have e1:=vT a (by omega);have e2:=vT v hv;have Hb:=vT m hm;simp[ee,yN,fX,k5,cG,e1,e2,Hb,ha]
  |v_ a g ha hg=>
   have e1:=vT a (by omega);have e2:(34::(g.data.toList++[34])).getLast?=U (34:UInt8):=by rw[<-rv,List.getLast?_concat]
   simp[ee,fX,k5,cG,e1,ha,e2]
  |dr a ip b lo hi ha bt M=>have e1:=vT a (by omega);have e2:=QS bt M;simp[ee,fX,k5,cG,e1,ha,Gs,e2]
theorem Wr{a:bG}(h:dl a=0)(r:List W8):kG (e3 a++r)=(a,r):=by
 rcases vu h with rfl|rfl|⟨n,q,h2,rfl⟩;.rfl
 .rfl
 .have e1:=As n (by omega);have e2:=Hh n (by omega);simp[kG,e3,o_,tC,tk,e1,e2]
theorem Zu{a:bG}(h:dl a=0)(r:List W8):hk (e3 a++r)=U (a,(e3 a).length):=by
 rcases vu h with rfl|rfl|⟨n,q,h2,rfl⟩;.rfl
 .rfl
 .have e1:=vT n (by omega);have e2:n<1000:=by omega
  simp[hk,xb,e3,o_,tC,tk,e1,e2]
theorem aaP(a:bG):e3 a≠[]:=by
 unfold e3;split;.simp
 .split<;>simp
theorem WY{l:List W8}{a:bG}{n:Nat}(h:hk l=U (a,n)):l.take n=e3 a/\1<=n/\n<=l.length/\Db a:=by
 cases l with
  |nil=>cases h
  |cons w r=>
   rw[hk]at h;split at h;.rename_i e;simp only[cm,eg]at h;obtain⟨rfl,rfl⟩:=h;subst e;exact⟨J,by omega,by simp,⟨xL (by decide) (by decide),xL (by decide) (by decide)⟩⟩
   .split at h;.rename_i e;simp only[cm,eg]at h;obtain⟨rfl,rfl⟩:=h;subst e;exact⟨J,by omega,by simp,⟨xL (by decide) (by decide),xL (by decide) (by decide)⟩⟩
    .split at h
     .rename_i e;cases r with
       |nil=>cases h
       |cons x t=>
        rw[xb]at h;split at h;.rename_i hx;simp only[cm,eg]at h;obtain⟨rfl,rfl⟩:=h;subst e;have:=AY hx.1;refine⟨?_,by omega,by simp,⟨eF (k:=2) (by omega),eF (by omega)⟩⟩;simp only[e3,List.take_succ_cons,List.take_zero];rw[if_neg (by decide),if_neg (by decide)];simp only[Int.toNat_natCast];rw[<-this]
        .cases h
     .cases h
theorem wG:LF bZ:=⟨by decide,xL (by decide) (by decide),xL (by decide) (by decide),xL (by decide) (by decide)⟩
theorem ads{x:W8}(h2:2<=x.length)(h0:x.head?=U 34)(q:x.getLast?=U 34):x=34::(x.tail.dropLast++[34]):=by
 cases x with
  |nil=>simp at h2
  |cons a t=>
   simp only[List.head?_cons,cm]at h0;subst h0;have ht:t≠[]:=fun e=>by rw[e]at h2;simp at h2
   rw[List.getLast?_cons_of_ne_nil ht]at q;rw[N6];obtain⟨bo,hl⟩:=acs.1 q|>fun⟨ys,e⟩=>(⟨ht,⟨ys,e⟩⟩:t≠[]/\∃ys,t=ys++[34]);obtain⟨ys,rfl⟩:=hl;simp
theorem anJ{l:List W8}{c:CD}{n:Nat}(h:ee l=U (c,n)):l.take n=fX c/\3<=n/\n<=l.length/\jJ c:=by
 match l,h with
  |a::s::x::r,h=>
   rw[ee]at h;split at h
   .rename_i ha;have Kz:=AY ha.1;have hI:mf (bW a:Int):=eF (by omega);have wD:∀k:Nat,k<=9->mf (k:Int):=fun k z=>eF (by omega);split at h
    .rename_i es;subst es;match r,h with
      |al::aI::t,h=>
       rw[yN]at h;split at h;.rename_i hy;simp only[cm,eg]at h;obtain⟨rfl,rfl⟩:=h;have sr:=AY hy.2.1;have ahI:=AY hy.2.2;refine⟨?_,by omega,by simp,⟨hI,wD 7 (by omega),wO aI,wO x,wG⟩⟩;rw[hy.1];simp[fX,k5,cG,<-Kz,<-sr,<-ahI]
       .cases h
    .split at h
     .rename_i es;subst es;split at h;.rename_i N;simp only[cm,eg]at h;obtain⟨rfl,rfl⟩:=h;refine⟨?_,by omega,by simp,⟨hI,wD 8 (by omega),by simp,by simp,wG⟩⟩;have:=ads N.1 N.2.1 N.2.2;simp[fX,k5,cG,<-Kz,<-this]
      .cases h
     .split at h
      .rename_i es;subst es;split at h;.rename_i ip b lo hi hp;simp only[cm,eg]at h;obtain⟨rfl,rfl⟩:=h;obtain⟨bt,M,hx⟩:=Fi hp;have z:=rM M;refine⟨?_,by omega,by simp,⟨hI,wD 9 (by omega),by simp,by simp,⟨bt,eF (by omega),eF (by omega),eF (by omega)⟩⟩⟩;simp[fX,k5,cG,<-Kz,Gs,hx]
       .cases h
      .split at h
       .rename_i ho;simp only[cm,eg]at h;obtain⟨rfl,rfl⟩:=h;have F:=ak5 ho.1;have sr:=AY ho.2;refine⟨?_,by omega,by simp,⟨hI,wD _ (by omega),wO x,by simp,wG⟩⟩;have IW:¬((ng s:Int)=7):=by omega
        have BF:¬((ng s:Int)=8):=by omega
        have Gk:¬((ng s:Int)=9):=by omega
        simp only[fX,if_neg IW,if_neg BF,if_neg Gk,F.1,Int.toNat_natCast,<-Kz,<-sr];rfl
       .cases h
   .cases h
def FY(cs:List CD):Prop:=∀c∈cs,nM c
theorem Ue(c:CD):fX c≠[]:=by unfold fX;simp
theorem ack:∀(cs:List CD)(f:Bool)(n:Nat),FY cs->(io f cs).length<=n->kN n (io f cs)=cs
 |[],_,n,_,_=>by cases n<;>simp[io,kN]
 |c::r,f,n,h,u=>by
  cases n with
   |zero=>simp[io]at u
   |succ n=>rw[io]at u⊢;rw[kN,if_neg (by simp),N6,aop (h c (by simp))];simp only[fh,cl]at u;rw[ack r false n (fun x hx=>h x (by simp[hx])) (by omega)]
theorem aad:∀(cs:List CD)(f:Bool)(n:Nat),FY cs->(io f cs).length<=n->fq n f (io f cs)=U cs
 |[],_,n,_,_=>by cases n<;>simp[io,fq]
 |c::r,f,n,h,u=>by
  cases n with
   |zero=>simp[io]at u
   |succ n=>rw[io]at u⊢;simp only[fh,cl]at u;rw[fq];simp only[if_true,adF (h c (by simp)),List.drop_left,aad r false n (fun x hx=>h x (by simp[hx])) (by omega)];rfl
theorem abV:∀(n:Nat)(f:Bool)(l:List W8)(cs:List CD),fq n f l=U cs->io f cs=l/\∀c∈cs,jJ c
 |n,f,[],cs,h=>by rw[fq]at h;simp only[cm]at h;subst h;exact⟨J,fun c H=>by cases H⟩
 |0,f,w::r,cs,h=>by rw[fq]at h;cases h
 |n+1,f,w::r,cs,h=>by
  rw[fq]at h;by_cases e:w=if f then zx else yt
  .rw[if_pos e]at h;cases z:ee r with
    |none=>rw[z]at h;cases h
    |some zA=>
     obtain⟨c,k⟩:=zA;rw[z]at h;simp only at h;cases hd:fq n false (r.drop k)with
      |none=>rw[hd]at h;cases h
      |some rR=>
       rw[hd]at h;simp only[xg,cm]at h;subst h;have q:=anJ z;have h2:=abV n false _ rR hd;refine⟨?_,fun x hx=>?_⟩;.rw[io,<-e,<-q.1,h2.1,AR]
       .rcases kh.1 hx with rfl|hx;.exact q.2.2.2
        .exact h2.2 x hx
  .rw[if_neg e]at h;cases h
structure uU(r:RL):Prop where
 yR:0<=r.nr
 zL:r.nr<=8
 qO:r.bq.length<=4
 bq:FY r.bq
 dO:dl r.dO=0
theorem afB{r:RL}(h:g_ r=0)(L:uJ r):uU r:=by
 unfold g_ at h;split at h;.cases h
 .split at h;.cases h
  .split at h;.rename_i h0 q h2;refine⟨by omega,by omega,by omega,fun c H=>?_,h⟩;exact ajx ((Gy.1 h2) _ (tU.2 ⟨c,H,J⟩)) (L.bq c H)
   .rename_i h3;exact absurd h h3
structure l3(p:bj):Prop where
 qO:p.bw.length<=12
 bw:∀r∈p.bw,uU r
 bg:dl p.bg=0
theorem BW{p:bj}(h:cM p=0)(hp:I4 p):l3 p:=by
 unfold cM at h;split at h;.cases h
 .split at h;.rename_i h0 q;exact⟨by omega,fun r L=>afB ((Gy.1 h) _ (tU.2 ⟨r,L,J⟩)) (hp.bw r L),q⟩
  .rename_i h2;exact absurd h h2
theorem Zy(r:RL):gi r≠[]:=by unfold gi;simp
def BU(w:W8):Prop:=(32:UInt8)∉w/\(10:UInt8)∉w
theorem Dm{w:W8}(h:∀b∈w,33<=b.toNat):BU w:=⟨fun hm=>by have:=h 32 hm;simp at this,fun hm=>by have:=h 10 hm;simp at this⟩
theorem afi{w:W8}(h:w.all eD=true):∀b∈w,33<=b.toNat:=fun b hb=>by have:=List.all_eq_true.1 h b hb;unfold eD at this;rw[lR,decide_eq_true_eq]at this;omega
theorem w7(n:Nat):∀b∈aQ n,33<=b.toNat:=afi (yB n)
theorem Vw:∀(cs:List UInt8)(Q:List Nat),(∀c∈cs,33<=c.toNat)->∀b∈mb cs Q,33<=b.toNat
 |_,[],_,b,hb=>by simp[mb]at hb
 |[],n::r,_,b,hb=>w7 n b (by simpa[mb]using hb)
 |c::cs,n::r,h,b,hb=>by
  simp only[mb,jC,kh]at hb;rcases hb with hb|rfl|hb;.exact w7 n b hb
  .exact h _ (by simp)
  .exact Vw cs r (fun x hx=>h x (by simp[hx])) b hb
theorem aai{a:bG}(w:W8)(hw:w∈e3 a):BU w:=by
 unfold e3 at hw;apply Dm;split at hw;.rw[jB]at hw;subst hw;decide
 .split at hw;.rw[jB]at hw;subst hw;decide
  .simp only[kh,xc,or_false]at hw;rcases hw with rfl|rfl;.decide
   .exact w7 _
theorem ae1{c:CD}(h:nM c)(w:W8)(hw:w∈fX c):BU w:=by
 apply Dm;cases h with
  |wF a k v ha q h6 hv=>
   rcases FC q h6 with rfl|rfl|rfl|rfl|rfl|rfl<;> .simp[fX,k5,cG]at hw;rcases hw with rfl|rfl|rfl;.exact w7 _
                                                   .decide
                                                   .exact w7 _
  |wX a v m ha hv hm=>
   simp[fX,k5,cG]at hw;rcases hw with rfl|rfl|rfl|rfl|rfl;.exact w7 _
   .decide
   .exact w7 _
   .decide
   .exact w7 _
  |v_ a g ha hg=>
   simp[fX,k5,cG]at hw;rcases hw with rfl|rfl|rfl;.exact w7 _
   .decide
   .intro b hb;simp only[kh,jC,xc,or_false]at hb;rcases hb with rfl|hb|rfl;.decide
    .exact((DC hg).1 b (by simpa using hb)).1
    .decide
  |dr a ip b lo hi ha bt M=>
   simp[fX,k5,cG]at hw;rcases hw with rfl|rfl|rfl;.exact w7 _
   .decide
   .exact Vw _ _ (by decide)
theorem aaT:∀(cs:List CD)(f:Bool),FY cs->∀w∈io f cs,BU w
 |[],_,_,w,hw=>by cases hw
 |c::r,f,h,w,hw=>by
  simp only[io,kh,jC]at hw;rcases hw with rfl|hw|hw
  .cases f;.exact Dm (by decide)
   .exact Dm (by decide)
  .exact ae1 (h c (by simp)) w hw
  .exact aaT r false (fun x hx=>h x (by simp[hx])) w hw
theorem aeM{nr:Int}(h0:0<=nr)(h8:nr<=8):BU (qa nr):=by obtain⟨k,rfl⟩:∃k:Nat,nr=k:=⟨nr.toNat,by omega⟩;rcases sf (show k<=8 by omega)with rfl|rfl|rfl|rfl|rfl|rfl|rfl|rfl|rfl<;>exact Dm (by decide)
theorem OZ{r:RL}(h:uU r)(w:W8)(hw:w∈gi r):BU w:=by
 simp only[gi,jC,kh]at hw;rcases hw with hw|rfl|hw;.exact aai w hw
 .exact aeM h.yR h.zL
 .exact aaT _ _ h.bq w hw
theorem Oc(c x:UInt8)(hx:x≠c):∀ws:List W8,(∀w∈ws,x∉w)->x∉cr c ws|[],_=>by simp[cr]|[w],h=>h w (by simp)|w::al::r,h=>by rw[cr];simp only[jC,kh,not_or];exact⟨h w (by simp),hx,Oc c x hx (al::r) fun v hv=>h v (by simp[hv])⟩
theorem ajy{r:RL}(h:uU r):lG (cr 32 (gi r))=r:=by have e:=E_ 32 (gi r) (Zy r) fun w hw=>(OZ h w hw).1;unfold lG;simp only[e];unfold gi;rw[Wr h.dO];simp only[List.headD_cons,N6,aby h.yR h.zL,ack r.bq true _ h.bq (aA _)]
theorem akV{r:RL}(h:uU r):ke (gi r)=U r:=by
 unfold ke;have e1:hk (gi r)=U (r.dO,(e3 r.dO).length):=Zu h.dO _;have e2:(gi r).drop ((e3 r.dO).length+1)=io true r.bq:=by unfold gi;rw[List.drop_append,List.drop_eq_nil_of_le (by omega)];simp
 have mt:(gi r).getD (e3 r.dO).length []=qa r.nr:=by unfold gi;rw[cI,List.getElem?_append_right (aA _)];simp
 have hl:(gi r).length=(e3 r.dO).length+1+(io true r.bq).length:=by unfold gi;simp;omega
 rw[e1];simp only;rw[if_pos (by omega),e2,aad r.bq true _ h.bq (by omega),mt,aby h.yR h.zL];simp only;rw[if_neg (by have:=h.yR;omega)]
theorem ajM{l:List W8}{r:RL}(h:ke l=U r):gi r=l/\uJ r:=by
 unfold ke at h;split at h
 .rename_i a n ha;have q:=WY ha;split at h
  .rename_i u;split at h
   .rename_i cs H;have h2:=abV _ _ _ _ H;split at h;.cases h
    .rename_i agZ;simp only[cm]at h;subst h;have h3:=US agZ;refine⟨?_,⟨xL (by simp only;omega) (by simp only;omega),h2.2,q.2.2.2⟩⟩;unfold gi;simp only;rw[h2.1,h3.1,<-q.1,cI,cq u,vE,List.getElem_cons_drop,AR]
   .cases h
  .cases h
 .cases h
def nY(p:bj):List W8:=cr 32 (rQ::e3 p.bg)::p.bw.map fun r=>cr 32 (gi r)
theorem Rn(p:bj):dS p=(nY p).flatMap fun w=>w++[10]:=by unfold dS nY;simp[List.flatMap_map]
theorem Q_(a:bG)(w:W8)(hw:w∈rQ::e3 a):BU w:=by
 rcases kh.1 hw with rfl|hw;.exact Dm (by decide)
 .exact aai w hw
theorem acd{p:bj}(h:l3 p)(w:W8)(hw:w∈nY p):(10:UInt8)∉w:=by
 unfold nY at hw;rcases kh.1 hw with rfl|hw;.exact Oc 32 10 (by decide) _ fun v hv=>(Q_ _ v hv).2
 .obtain⟨r,L,rfl⟩:=tU.1 hw;exact Oc 32 10 (by decide) _ fun v hv=>(OZ (h.bw r L) v hv).2
theorem afV(p:bj):zP (dS p)=cr 10 (nY p):=by
 have e:dS p=cr 10 (nY p)++[10]:=by rw[Rn,<-Q4 10,Ln 10 [[]] (by simp) _ (by unfold nY;simp)];rfl
 unfold zP AN;rw[e,if_pos (by simp[Lib.hasSuffix])];simp
theorem afK{p:bj}(h:l3 p):rC (dS p)=p:=by
 unfold rC;rw[afV,E_ 10 (nY p) (by unfold nY;simp) (acd h)];have e1:(nY p).headD []=cr 32 (rQ::e3 p.bg):=J;have e2:(nY p).tail=p.bw.map fun r=>cr 32 (gi r):=J;have Hb:(kG (e3 p.bg)).1=p.bg:=by have:=Wr h.bg [];rw[ry]at this;rw[this]
 rw[e1,e2,E_ 32 _ (by simp) fun w hw=>(Q_ _ w hw).1,N6,Hb,List.map_map];have mt:p.bw.map (lG∘fun r=>cr 32 (gi r))=p.bw:=by have:p.bw.map (lG∘fun r=>cr 32 (gi r))=p.bw.map id:=List.map_congr_left fun r L=>ajy (h.bw r L);rw[this,List.map_id]
 rw[mt]
theorem aac:∀rs:List RL,(∀r∈rs,uU r)->jH (rs.map fun r=>cr 32 (gi r))=U rs|[],_=>J|r::t,h=>by rw[List.map_cons,jH,E_ 32 (gi r) (Zy r) fun w hw=>(OZ (h r (by simp)) w hw).1,akV (h r (by simp)),aac t fun x hx=>h x (by simp[hx])];rfl
theorem Yy:∀(ls:List W8)(rs:List RL),jH ls=U rs->(rs.map fun r=>cr 32 (gi r))=ls/\∀r∈rs,uJ r
 |[],rs,h=>by simp only[jH,cm]at h;subst h;exact⟨J,fun r L=>by cases L⟩
 |w::t,rs,h=>by
  rw[jH]at h;split at h
  .rename_i x hx;cases hd:jH t with
    |none=>rw[hd]at h;cases h
    |some ys=>
     rw[hd]at h;simp only[xg,cm]at h;subst h;have q:=ajM hx;have h2:=Yy t ys hd;refine⟨?_,fun r L=>?_⟩;.rw[List.map_cons,h2.1,q.1,LN]
     .rcases kh.1 L with rfl|L;.exact q.2
      .exact h2.2 r L
  .cases h
theorem aem{p:bj}(h:l3 p)(M:cM p=0):tq (dS p)=U p:=by
 unfold tq;rw[Rn,Zc 10 _ (acd h)];have hl:(nY p++[[]]).length=p.bw.length+2:=by unfold nY;simp
 have eL:=h.qO;have e1:(nY p++[[]]).headD []=cr 32 (rQ::e3 p.bg):=J;have e2:(nY p++[[]]).tail.dropLast=p.bw.map fun r=>cr 32 (gi r):=by unfold nY;simp
 simp only;rw[if_neg (by rw[hl];simp;omega),e1,e2,E_ 32 _ (by simp) fun w hw=>(Q_ _ w hw).1,aac p.bw h.bw];have mt:yp (rQ::e3 p.bg)=U p.bg:=by have:=Zu h.bg [];rw[ry]at this;unfold yp;simp only[if_true,this]
 rw[mt];simp only;rw[if_pos M]
theorem O7{s:W8}{p:bj}(h:tq s=U p):dS p=s/\cM p=0/\I4 p:=by
 unfold tq at h;simp only at h;split at h;.cases h
 .rename_i H;simp only[not_or,Nat.not_lt,Decidable.not_not]at H;obtain⟨h2,_,sS⟩:=H;split at h
  .rename_i a ha;split at h
   .rename_i rs tI;split at h
    .rename_i M;simp only[cm]at h;subst h;have q:=Yy _ _ tI;have hb:Db a/\cr 32 (rQ::e3 a)=(ck 10 s).headD []:=by
      unfold yp at ha;split at ha;.cases ha
      .rename_i w r hw;split at ha
       .rename_i aig;split at ha
        .rename_i b n u;split at ha;.rename_i ut;simp only[cm]at ha;subst ha;have h3:=WY u;refine⟨h3.2.2.2,?_⟩;rw[<-h3.1,ut,List.take_length,<-aig,<-hw,LN]
         .cases ha
        .cases ha
       .cases ha
     refine⟨?_,M,⟨q.2,hb.1⟩⟩;rw[Rn];unfold nY;simp only;rw[q.1,hb.2];obtain⟨ys,yX⟩:=acs.1 sS;cases ys with
      |nil=>rw[yX]at h2;simp at h2
      |cons al t=>rw[yX];simp only[rv,List.headD_cons,N6,List.dropLast_concat];rw[<-Q4 10 (al::t),rv,<-rv,<-yX,LN]
    .cases h
   .cases h
  .cases h
theorem ae8(s:W8)(hp:I4 (rC s)):(if cM (rC s)=0/\dS (rC s)=s then U (rC s)else ab)=tq s:=by
 split;.rename_i h;have:=aem (BW h.1 hp) h.1;rw[h.2]at this;exact this.symm
 .rename_i h;cases hd:tq s with
   |none=>rfl
   |some p=>obtain⟨q,h2,h3⟩:=O7 hd;have L:=afK (BW h2 h3);rw[q]at L;exact absurd ⟨by rw[L];exact h2,by rw[L];exact q⟩ h
end Go.Proofs.YtefdakbahplnbaaGreatDoor
namespace Go.Proofs.YtefdakbahplnbaaGreatDoor
open Go.RowKit
theorem ai(w:ac)(o:Obj):Below w.heap.size w (w.alloc o):=(Below.refl _ _).alloc (aA _) _
theorem ax{w w1 w2:ac}(a:Below w.heap.size w w1)(b:Below w1.heap.size w1 w2):Below w.heap.size w w2:=a.trans (b.mono a.size)
theorem kD:cj 0= .nilIface:=rfl
theorem iL{f:Nat}(h:f≠0):cj f= .iface 43 (I R f):=if_neg h
def fe(a:bG):ag:= .agg #[I R a.aF,I R a.aU]
def e9(c:CD):ag:= .agg #[I R c.a6,I R c.op,I ah c.v,I ah c.m, .string c.ny,I .u32 c.dr.ip,I R c.dr.bits,I R c.dr.lo,I R c.dr.hi]
def lW(r:RL)(oa:Option bl)(cap:Nat):ag:= .agg #[I R r.nr,ak oa r.bq.length cap,I R r.dO.aF,I R r.dO.aU]
def ep(p:bj)(oa:Option bl)(cap:Nat):ag:= .agg #[ak oa p.bw.length cap,I R p.bg.aF,I R p.bg.aU]
structure DU(W:ac)(b o:Nat)(c:CD):Prop where
 k0:W.cell? ⟨b,o,ab⟩=U (I R c.a6)
 k1:W.cell? ⟨b,o+1,ab⟩=U (I R c.op)
 k2:W.cell? ⟨b,o+2,ab⟩=U (I ah c.v)
 k3:W.cell? ⟨b,o+3,ab⟩=U (I ah c.m)
 EZ:W.cell? ⟨b,o+4,ab⟩=U (.string c.ny)
 X9:W.cell? ⟨b,o+5,ab⟩=U (I .u32 c.dr.ip)
 U9:W.cell? ⟨b,o+6,ab⟩=U (I R c.dr.bits)
 Mb:W.cell? ⟨b,o+7,ab⟩=U (I R c.dr.lo)
 Jr:W.cell? ⟨b,o+8,ab⟩=U (I R c.dr.hi)
 ok:jJ c
theorem DU.au{W V:ac}{b o:Nat}{x:CD}(h:DU W b o x)(H:∀j,V.cell? ⟨b,j,ab⟩=W.cell? ⟨b,j,ab⟩):DU V b o x:=⟨(H _).trans h.k0,(H _).trans h.k1,(H _).trans h.k2,(H _).trans h.k3,(H _).trans h.EZ,(H _).trans h.X9,(H _).trans h.U9,(H _).trans h.Mb,(H _).trans h.Jr,h.ok⟩
structure jV(oa:Option bl)(cs:List CD)(W:ac):Prop where
 ez:0<cs.length->∃b off,oa=U ⟨b,off,ab⟩/\b<W.heap.size/\∀i c,cs[i]?=U c->DU W b (off+i*9) c
theorem jV.au{oa:Option bl}{cs:List CD}{W V:ac}(h:jV oa cs W)(hb:Below W.heap.size W V):jV oa cs V:=⟨fun h0=>by obtain⟨b,off,q,h2,h3⟩:=h.ez h0;exact⟨b,off,q,dk h2 hb.size,fun i c hi=>(h3 i c hi).au fun j=>(kL hb).1 b j h2⟩⟩
structure Hu(W:ac)(b o:Nat)(r:RL)(oa:Option bl)(cap:Nat):Prop where
 k0:W.cell? ⟨b,o,ab⟩=U (I R r.nr)
 k1:W.cell? ⟨b,o+1,ab⟩=U (ak oa r.bq.length cap)
 k2:W.cell? ⟨b,o+2,ab⟩=U (I R r.dO.aF)
 k3:W.cell? ⟨b,o+3,ab⟩=U (I R r.dO.aU)
 bq:jV oa r.bq W
 le:r.bq.length<=cap
 cap:cap<=maxLen
 ok:uJ r
theorem Hu.au{W V:ac}{b o:Nat}{r:RL}{oa:Option bl}{cap:Nat}(h:Hu W b o r oa cap)(hw:b<W.heap.size)(hb:Below W.heap.size W V):Hu V b o r oa cap:=have H:=fun j=>(kL hb).1 b j hw;⟨(H _).trans h.k0,(H _).trans h.k1,(H _).trans h.k2,(H _).trans h.k3,h.bq.au hb,h.le,h.cap,h.ok⟩
structure xB(oa:Option bl)(rs:List RL)(W:ac):Prop where
 ez:0<rs.length->∃b off,oa=U ⟨b,off,ab⟩/\b<W.heap.size/\∀i r,rs[i]?=U r->∃dj P6,Hu W b (off+i*4) r dj P6
theorem xB.au{oa:Option bl}{rs:List RL}{W V:ac}(h:xB oa rs W)(hb:Below W.heap.size W V):xB oa rs V:=⟨fun h0=>by obtain⟨b,off,q,h2,h3⟩:=h.ez h0;refine⟨b,off,q,dk h2 hb.size,fun i r hi=>?_⟩;obtain⟨dj,cc,h4⟩:=h3 i r hi;exact⟨dj,cc,h4.au h2 hb⟩⟩
theorem xB.nil(oa:Option bl)(W:ac):xB oa [] W:=⟨fun h=>absurd h (Nat.lt_irrefl 0)⟩
structure fc(oa:Option bl)(cap:Nat)(p:bj)(W:ac):Prop where
 bw:xB oa p.bw W
 le:p.bw.length<=cap
 cap:cap<=maxLen
 ok:I4 p
theorem fc.au{oa:Option bl}{cap:Nat}{p:bj}{W V:ac}(h:fc oa cap p W)(hb:Below W.heap.size W V):fc oa cap p V:=⟨h.bw.au hb,h.le,h.cap,h.ok⟩
end Go.Proofs.YtefdakbahplnbaaGreatDoor
