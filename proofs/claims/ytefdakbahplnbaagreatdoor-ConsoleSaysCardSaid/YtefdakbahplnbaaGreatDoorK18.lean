/- The walks of the document's GlobFault and Match, of likes, and of the law GlobSays. -/
import Derived.Test.YtefdakbahplnbaaGreatDoorK13
import Derived.Test.YtefdakbahplnbaaGreatDoorK17
open Go.Proofs.Tryz
open Array renaming getElem?_eq_some_iff->bM
open ByteArray renaming empty->fH
open Go renaming Calls->ap,Value->ag,World->ac,bodyPost_ret->ba,heap_alloc_new->a7,setRow_heap->aV,wpList_store_row->bK
open Go.Ending renaming returned->aq
open Go.IntKind renaming i64->R,u32->aj,u64->ah,wrap_i64->jP
open Go.Proofs.Tryz renaming prog->ae
open Go.Value renaming agg->aw,int->I,pointer->av,slice->ak,string->ad,tuple->az
open List renaming getElem?_cons_succ->c7,getElem?_cons_zero->cT,getElem?_toArray->cK
open Nat renaming add_zero->po,le_refl->aA,lt_of_lt_of_le->dk
open Option renaming none->ab,some->U
namespace Go.Proofs.YtefdakbahplnbaaGreatDoor.Gl
open Go.RowKit
def rA(p:ByteArray):Nat:=match aqp p with| .inl n=>n| .inr _=>0
theorem agv{p:ByteArray}{n:Nat}(h:aqp p= .inl n):0<n:=by
 unfold aqp at h;split at h;.simp only[Sum.inl.injEq]at h;omega
 .split at h;.simp only[Sum.inl.injEq]at h;omega
  .split at h;.simp only[Sum.inl.injEq]at h;omega
   .simp at h
theorem aio{p:ByteArray}(h:24<p.size):rA p=2:=by unfold rA aqp;rw[if_pos h]
theorem afU{p:ByteArray}(h:¬24<p.size)(u:fi (p.size+1) p 0=ab):rA p=4:=by unfold rA aqp;rw[if_neg h,u];split<;>rename_i hh<;>split at hh<;>simp_all
theorem ajA{p:ByteArray}{Z:List Part}(h:¬24<p.size)(u:fi (p.size+1) p 0=U Z):rA p=if 0<Z.length then 0 else 4:=by
 by_cases h0:p.size=0
 .have hl:=SV _ _ _ _ u;have:aqp p= .inl 4:=by unfold aqp;rw[if_neg h,if_pos h0]
  unfold rA;rw[this,if_neg (by omega)]
 .have:aqp p= .inr Z:=by unfold aqp;rw[if_neg h,if_neg h0,u]
  have hp:=Rm this;unfold rA;rw[this,if_pos (List.length_pos_iff.2 hp.1)]
theorem OA(p:ByteArray)(hz:p.size<=1000)(w:ac):ap ae 76 #[ad p] w fun e w'=>e=aq (I R (rA p))/\Below w.heap.size w w':=by
 by_cases qe:24<p.size;.rw[aio qe];go_enter func76,ntmps76;go_wp2;go_ret;exact⟨J,Below.refl _ _⟩
 .cases N:fi (p.size+1) p 0 with
   |none=>have HQ:=aa N;have HF:=aa (afU qe N);clear N;go_enter func76,ntmps76;go_wp2_with(go_at_call 110;refine(NS p hz _).mono ?_;unfold BG;rw[HQ.out];rintro e W⟨hW,rfl⟩);go_ret;exact⟨ia (by rw[HF.out];rfl),hW⟩
   |some Z=>
    have HQ:=aa N;have HF:=aa (ajA qe N);clear N;by_cases hl:0<Z.length
    .have hd:decide (0<Z.length)=true:=by simpa using hl
     go_enter func76,ntmps76;go_wp2_with(go_at_call 110;refine(NS p hz _).mono ?_;unfold BG;rw[HQ.out];rintro e W⟨hW,E,cs,rfl,hcut,cE⟩;rw[hd]);go_ret;exact⟨ia (by rw[HF.out,if_pos hl];rfl),hW⟩
    .have hd:decide (0<Z.length)=false:=by simpa using hl
     go_enter func76,ntmps76;go_wp2_with(go_at_call 110;refine(NS p hz _).mono ?_;unfold BG;rw[HQ.out];rintro e W⟨hW,E,cs,rfl,hcut,cE⟩;rw[hd]);go_ret;exact⟨ia (by rw[HF.out,if_neg hl];rfl),hW⟩
theorem ad7{w:ac}{base:Nat}{E:ag}{p:ByteArray}{cs:List (Nat×Nat)}{Z:List Part}(hcut:uq p cs Z)(h:w.ownsRow base 9 1 E Z.length (Ad p cs))(bo:Z≠[]):∃b cap,E=ak (U ⟨b,0,ab⟩) Z.length cap/\b<w.heap.size/\∀i,i<Z.length->w.cell? ⟨b,i,ab⟩=U (ad (sa p cs i)):=by
 have u:Z.length≠0:=by simpa using bo
 rcases h.2 with⟨_,h0⟩|⟨g,cap,co,rfl,hb,hg,_⟩;.exact absurd h0 u
 .refine⟨g,cap,J,(bM.1 hg).1,fun i hi=>?_⟩;have hl:i<cs.length:=by rw[hcut.1];exact hi
  have:=h.cells (g:=g) J i (ad (sa p cs i)) (by unfold Ad sa;rw[List.getElem?_map,List.getD_eq_getElem?_getD,List.getElem?_eq_getElem hl];rfl);have sv:(⟨g,0,ab⟩:Addr).add i=⟨g,i,ab⟩:=by unfold Addr.add;split<;>simp_all
  rwa[sv]at this
theorem afC(p s:ByteArray)(hz:p.size<=1000)(F:s.size<=1000)(w:ac):ap ae 116 #[ad p,ad s] w fun e w'=>e=aq (.bool (tr p s))/\Below w.heap.size w w':=by
 cases hP:aqp p with
  |inl n=>
   have u:0<rA p:=by have h:=agv hP;unfold rA;rw[hP];exact h
   have HM:=aa (show tr p s=false by unfold tr;rw[hP]);clear hP;go_enter func116,ntmps116;go_wp2_with(go_at_call 76;refine(OA p hz _).mono ?_;rintro e W⟨rfl,hW⟩);go_ret;exact⟨gm HM.out.symm,hW⟩
  |inr Z=>
   have h0:rA p=0:=by unfold rA;rw[hP]
   obtain⟨bo,qe⟩:=Rm hP;have N:fi (p.size+1) p 0=U Z:=by
    unfold aqp at hP;split at hP;.simp at hP
    .split at hP;.simp at hP
     .split at hP;.simp at hP
      .rename_i hh;simp only[Sum.inr.injEq]at hP;rw[hh,hP]
   have HM:=aa (show tr p s=eJ Z s Z.length s.size by unfold tr;rw[hP];exact aiz Z s);have HQ:=aa N;have Lf:=aa h0;clear hP N h0;go_enter func116,ntmps116;go_wp2_with(first|(go_at_call 76;refine(OA p hz _).mono ?_;rw[Lf.out];rintro e W⟨rfl,hW⟩)|(go_at_call 110;refine(NS p hz _).mono ?_;unfold BG;rw[HQ.out];rintro e W2⟨ex,E,cs,rfl,hcut,cE⟩;obtain⟨b,cap,rfl,hb,dX⟩:=ad7 hcut cE bo)|(go_at_call 155;refine(aoT p s cs Z b cap hz F hcut (by omega) _ hb dX).mono ?_;rintro e agC⟨rfl,Ga⟩));go_ret;exact⟨gm HM.out.symm,(hW.trans (ex.mono hW.size)).trans (Ga.mono (Nat.le_trans hW.size ex.size))⟩
end Go.Proofs.YtefdakbahplnbaaGreatDoor.Gl
namespace Go.Proofs.YtefdakbahplnbaaGreatDoor
open Go.RowKit Go.Sort
def u2(o:Option (bG×Nat)):ag:=match o with|U (a,n)=>az #[fe a,I R n]|ab=>az #[fe ⟨0,0⟩,I R 0]
theorem Ew(w:W8)(r:List W8):hk (w::r)=if w=tC then U (⟨1,0⟩,1)else if w=tk then U (⟨3,0⟩,1)else if w=o_ then xb r else ab:=rfl
set_option maxHeartbeats 2000000 in set_option maxRecDepth 100000 in theorem V4(ws:List W8)(c':∀x∈ws,x.length<=9000)(oa:Option Addr)(cap:Nat)(w:ac)(hS:hq oa ws w)(hl:ws.length<=9001):ap ae 15 #[ak oa ws.length cap] w fun e w'=>e=aq (u2 (hk ws))/\Below w.heap.size w w':=by
 have aZ:(w.alloc (.cells #[I R 0,I R 0] 30)).heap[w.heap.size]?=U (.cells #[I R 0,I R 0] 30 (0,0)):=a7 _ _;match ws,c',hS,hl with
  |[],_,_,_=>have HV:=aa (show u2 (hk [])=az #[aw #[I R 0,I R 0],I R 0]from J);simp only[List.length_nil];go_enter func15,ntmps15;go_wp2_with(refine bK J 30 _ _ J w.heap.size #[I R 0,I R 0] J J 30 _ aZ iP J (mA _ _) ?_);refine ba (v:=az #[aw #[I R 0,I R 0],I R 0]) (sQ J _ _ w.heap.size #[I R 0,I R 0] _ J J J (aV _ _ _ _ _ _ aZ)) J ⟨?_,below_setRow (ai _ _) (aA _) _⟩;rw[HV.out]
  |x::r,c',hS,hl=>
   obtain⟨b,off,rfl,ds,H⟩:=hS.ez (by simp);obtain⟨n,u⟩:=af (x::r).length;have k0:=H 0 x J;rw[po]at k0;have G:=aa H;have yb:0<n:=by rw[u];simp
   have jb:n<=9001:=by omega
   have HN:=aa u;rw[<-u];clear u H hS hl;by_cases q:x=tC;.have HV:=aa (show u2 (hk (x::r))=az #[aw #[I R 1,I R 0],I R 1]by rw[Ew,if_pos q];rfl);rw[q]at k0;unfold bs tC at k0;clear q;go_enter func15,ntmps15;go_wp2_with(refine bK J 30 _ _ J w.heap.size #[I R 1,I R 0] J J 30 _ aZ iP J (mA _ _) ?_);refine ba (v:=az #[aw #[I R 1,I R 0],I R 1]) (sQ J _ _ w.heap.size #[I R 1,I R 0] _ J J J (aV _ _ _ _ _ _ aZ)) J ⟨?_,below_setRow (ai _ _) (aA _) _⟩;rw[HV.out]
   have n1:=q;clear q;by_cases q:x=tk;.have HV:=aa (show u2 (hk (x::r))=az #[aw #[I R 3,I R 0],I R 1]by rw[Ew,if_neg n1,if_pos q];rfl);rw[q]at k0;unfold bs tk at k0;clear q n1;go_enter func15,ntmps15;go_wp2_with(refine bK J 30 _ _ J w.heap.size #[I R 3,I R 0] J J 30 _ aZ iP J (mA _ _) ?_);refine ba (v:=az #[aw #[I R 3,I R 0],I R 1]) (sQ J _ _ w.heap.size #[I R 3,I R 0] _ J J J (aV _ _ _ _ _ _ aZ)) J ⟨?_,below_setRow (ai _ _) (aA _) _⟩;rw[HV.out]
   have n2:=q;clear q;by_cases q:x=o_
   .have gJ:=aa (show hk (x::r)=xb r by rw[Ew,if_neg n1,if_neg n2,if_pos q]);rw[q]at k0;unfold bs o_ at k0;clear q n1 n2;match r,c',G,HN,gJ with
     |[],_,_,HN,gJ=>have HV:=aa (show u2 (hk [x])=az #[aw #[I R 0,I R 0],I R 0]by rw[gJ.out];rfl);obtain rfl:n=1:=HN.out;go_enter func15,ntmps15;go_wp2_with(refine bK J 30 _ _ J w.heap.size #[I R 0,I R 0] J J 30 _ aZ iP J (mA _ _) ?_);refine ba (v:=az #[aw #[I R 0,I R 0],I R 0]) (sQ J _ _ w.heap.size #[I R 0,I R 0] _ J J J (aV _ _ _ _ _ _ aZ)) J ⟨?_,below_setRow (ai _ _) (aA _) _⟩;rw[HV.out]
     |al::t,c',G,HN,gJ=>
      have k1:=G.out 1 al J;have GR:1<n:=by rw[HN.out];simp
      have hy:=c' al (by simp);have HF:=fun X=>tz (bs al) (by rw[ct];omega) X;rw[fy]at HF;unfold oh at HF;obtain⟨B,N⟩:=af (bs al);rw[<-N]at HF k1;have dJ:=aa (show hk (x::al::t)=if cz al=true/\bW al<1000 then U (⟨2,bW al⟩,2)else ab by rw[gJ.out];rfl);obtain⟨ay,hu⟩:=af (bW al);obtain⟨ok,bh⟩:=af (cz al);rw[<-hu,<-bh]at dJ HF;clear hu bh N gJ c' G HN hy;by_cases hg:ok=true/\ay<1000
      .have HV:=aa (show u2 (hk (x::al::t))=az #[aw #[I R 2,I R ay],I R 2]by rw[dJ.out,if_pos hg];rfl);obtain⟨rfl,SC⟩:=hg;have sh:R.wrap (ay:Int)=ay:=by rw[jP];omega
       go_enter func15,ntmps15;go_wp2_with(first|(go_at_call 19;refine(HF _).mono ?_;rintro e X⟨rfl,hX⟩;have ou:=(hX.block w.heap.size (by simp)).trans aZ;have HX:=aa hX;clear hX)|(refine bK J 30 _ _ J w.heap.size #[I R 2,I R ay] J J 30 _ ou iP J (mA _ _) ?_));refine ba (v:=az #[aw #[I R 2,I R ay],I R 2]) (sQ J _ _ w.heap.size #[I R 2,I R ay] _ J J J (aV _ _ _ _ _ _ ou)) J ⟨?_,below_setRow (ax (ai _ _) HX.out) (aA _) _⟩;rw[HV.out]
      .have HV:=aa (show u2 (hk (x::al::t))=az #[aw #[I R 0,I R 0],I R 0]by rw[dJ.out,if_neg hg];rfl);cases ok with
        |false=>clear hg dJ;go_enter func15,ntmps15;go_wp2_with(first|(go_at_call 19;refine(HF _).mono ?_;rintro e X⟨rfl,hX⟩;have ou:=(hX.block w.heap.size (by simp)).trans aZ;have HX:=aa hX;clear hX)|(refine bK J 30 _ _ J w.heap.size #[I R 0,I R 0] J J 30 _ ou iP J (mA _ _) ?_));refine ba (v:=az #[aw #[I R 0,I R 0],I R 0]) (sQ J _ _ w.heap.size #[I R 0,I R 0] _ J J J (aV _ _ _ _ _ _ ou)) J ⟨?_,below_setRow (ax (ai _ _) HX.out) (aA _) _⟩;rw[HV.out]
        |true=>have hu2:¬ay<1000:=fun h=>hg ⟨J,h⟩;clear hg dJ;go_enter func15,ntmps15;go_wp2_with(first|(go_at_call 19;refine(HF _).mono ?_;rintro e X⟨rfl,hX⟩;have ou:=(hX.block w.heap.size (by simp)).trans aZ;have HX:=aa hX;clear hX)|(refine bK J 30 _ _ J w.heap.size #[I R 0,I R 0] J J 30 _ ou iP J (mA _ _) ?_));refine ba (v:=az #[aw #[I R 0,I R 0],I R 0]) (sQ J _ _ w.heap.size #[I R 0,I R 0] _ J J J (aV _ _ _ _ _ _ ou)) J ⟨?_,below_setRow (ax (ai _ _) HX.out) (aA _) _⟩;rw[HV.out]
   .have HV:=aa (show u2 (hk (x::r))=az #[aw #[I R 0,I R 0],I R 0]by rw[Ew,if_neg n1,if_neg n2,if_neg q];rfl);have b1:=pr n1;have b2:=pr n2;have b3:=pr q;obtain⟨B,N⟩:=af (bs x);have tf:B.toList=x:=by rw[N,lh]
    rw[<-tf]at b1 b2 b3;rw[<-N]at k0;unfold tC at b1;unfold tk at b2;unfold o_ at b3;clear N tf n1 n2 q;go_enter func15,ntmps15;go_wp2_with(refine bK J 30 _ _ J w.heap.size #[I R 0,I R 0] J J 30 _ aZ iP J (mA _ _) ?_);all_goals refine ba (v:=az #[aw #[I R 0,I R 0],I R 0]) (sQ J _ _ w.heap.size #[I R 0,I R 0] _ J J J (aV _ _ _ _ _ _ aZ)) J ⟨?_,below_setRow (ai _ _) (aA _) _⟩;rw[HV.out]
def jo(o:Option (CD×Nat)):ag:=match o with|U (c,n)=>az #[aw (bm c),I R n]|ab=>az #[aw (bm cu),I R 0]
theorem n3{fn:Func}{p ay:Tmp}(h:fn.results=#[.cell p 129, .tmp ay])(tmps:Array ag)(w:ac)(g:Nat)(cs:Array ag)(v:ag)(F:cs.size=9)(hp:tmps.getD p undef=av (U ⟨g,0,ab⟩))(hv:tmps.getD ay undef=v)(hg:w.heap[g]?=U (.cells cs 129 (0,0))):(results fn tmps).run ae w= .ok (az #[aw cs,v]) w:=by rw[results_cell_tmp h,hp,hv];have hl:=run_loadVar_row (P:=ae) w g 129 129 cs (0,0) _ hg underlying129 J (by rw[F];exact gP);simp[asAddr,hl]
structure iB(w:ac)(r6:Nat)(c:CD)(X:ac):Prop where
 below:Below w.heap.size w X
 ci:X.heap[w.heap.size]?=U (.cells (bm cu) 129 (0,0))
 row:X.heap[r6]?=U (.cells (bm c) 129 (0,0))
 le:w.heap.size<r6
theorem iB.au{w:ac}{r6:Nat}{c:CD}{X Y:ac}(h:iB w r6 c X)(hb:Below X.heap.size X Y):iB w r6 c Y:=⟨h.below.trans (hb.mono h.below.size),(hb.block _ (bM.1 h.ci).1).trans h.ci,(hb.block _ (bM.1 h.row).1).trans h.row,h.le⟩
theorem iB.cell{w:ac}{r6:Nat}{c:CD}{X:ac}(h:iB w r6 c X)(j:Nat):X.cell? ⟨r6,j,ab⟩=(bm c)[j]?:=cell_of_row _ _ j _ _ _ h.row
theorem iB.b5{w:ac}{r6:Nat}{c:CD}{X:ac}(h:iB w r6 c X)(j:Nat):X.frozen? ⟨r6,j,ab⟩=false:=frozen_of_row _ _ j _ _ h.row
theorem iB.set{w:ac}{r6:Nat}{c:CD}{X:ac}(h:iB w r6 c X)(j:Nat)(v:ag)(wm:CD)(H:(bm c).setIfInBounds j v=bm wm):iB w r6 wm (X.setCell ⟨r6,j,ab⟩ v):=by have hl:=h.le;rw[setCell_eq_setRow _ _ j _ _ _ _ h.row,H];have hb:∀k,k≠r6->(X.setRow r6 (bm wm)).heap[k]?=X.heap[k]?:=fun k z=>ij X r6 k _ z;exact⟨h.below.trans ⟨J,J,J,by rw[iz];exact aA _,fun k z=>hb k (by omega)⟩,(hb _ (by omega)).trans h.ci,aV _ _ _ _ _ _ h.row,h.le⟩
theorem iB.start{w X:ac}(c:CD)(hb:Below w.heap.size w X)(L:X.heap[w.heap.size]?=U (.cells (bm cu) 129 (0,0))):iB w X.heap.size c (X.alloc (.cells (bm c) 129)):=⟨ax hb (ai _ _),((ai X _).block _ (bM.1 L).1).trans L,a7 _ _,(bM.1 L).1⟩
set_option maxRecDepth 100000 in theorem OG(ws:List W8)(oa:Option Addr)(cap:Nat)(w:ac)(hl:ws.length<3):ap ae 42 #[ak oa ws.length cap] w fun e w'=>e=aq (jo (ee ws))/\Below w.heap.size w w':=by have HV:=aa (show jo (ee ws)=az #[aw (bm cu),I R 0]by match ws,hl with|[],_=>rfl|[_],_=>rfl|[_,_],_=>rfl);have aZ:(w.alloc (.cells #[I R 0,I R 0,I ah 0,I ah 0,ad ⟨#[]⟩,I aj 0,I R 0,I R 0,I R 0] 129)).heap[w.heap.size]?=U (.cells (bm cu) 129 (0,0)):=a7 _ _;obtain⟨n,u⟩:=af ws.length;rw[<-u]at hl⊢;clear u;go_enter func42,ntmps42;go_wp2_with(refine bK J 129 _ _ J w.heap.size (bm cu) J J 129 _ aZ gP J (ly _) ?_);refine ba (v:=az #[aw (bm cu),I R 0]) (n3 J _ _ w.heap.size (bm cu) _ J J J (aV _ _ _ _ _ _ aZ)) J ⟨?_,below_setRow (ai _ _) (aA _) _⟩;rw[HV.out]
theorem GC(a s x:W8)(r:List W8):ee (a::s::x::r)=if cz a=true/\bW a<=3 then if s=[38]then yN a x r else if s=[126]then(if 2<=x.length/\x.head?=U 34/\x.getLast?=U 34 then U (⟨bW a,8,0,0,⟨x.tail.dropLast.toArray⟩,bZ⟩,3)else ab)else if s=[105,110]then(match ca x with|U (ip,b,lo,hi)=>U (⟨bW a,9,0,0,fH,⟨ip,b,lo,hi⟩⟩,3)|ab=>ab)else if ng s≠0/\cz x=true then U (⟨bW a,ng s,bW x,0,fH,bZ⟩,3)else ab else ab:=rfl
set_option maxHeartbeats 2000000 in set_option maxRecDepth 100000 in theorem amT(a s x:W8)(r:List W8)(c':∀al∈a::s::x::r,al.length<=9000)(oa:Option Addr)(cap:Nat)(w:ac)(hS:hq oa (a::s::x::r) w)(hl:(a::s::x::r).length<=9001)(kX:¬(cz a=true/\bW a<=3)):ap ae 42 #[ak oa (a::s::x::r).length cap] w fun e w'=>e=aq (jo (ee (a::s::x::r)))/\Below w.heap.size w w':=by
 have HV:=aa (show jo (ee (a::s::x::r))=az #[aw (bm cu),I R 0]by rw[GC,if_neg kX];rfl);obtain⟨b,off,rfl,ds,H⟩:=hS.ez (by simp);obtain⟨n,u⟩:=af (a::s::x::r).length;have k0:=H 0 a J;rw[po]at k0;have k1:=H 1 s J;have k2:=H 2 x J;have G:=aa H;have yU:3<=n:=by rw[u];simp
 have jb:n<=9001:=by omega
 have HN:=aa u;rw[<-u];clear u H hS hl;obtain⟨V0,dR,fM,o8,iA⟩:∃V,V=w.alloc (.cells #[I R 0,I R 0,I ah 0,I ah 0,ad ⟨#[]⟩,I aj 0,I R 0,I R 0,I R 0] 129)/\Below w.heap.size w V/\V.heap[w.heap.size]?=U (.cells (bm cu) 129 (0,0))/\w.heap.size<V.heap.size:=⟨_,J,ai _ _,a7 _ _,by rw[World.size_alloc];omega⟩;have di:=fun X=>tz (bs a) (by rw[ct];have:=c' a (by simp);omega) X;rw[fy]at di;unfold oh at di;obtain⟨CJ,l_⟩:=af (bs a);rw[<-l_]at di k0;obtain⟨br,hA⟩:=af (bW a);obtain⟨vW,bh⟩:=af (cz a);rw[<-hA,<-bh]at di;have kK:=aa (And.intro hA bh);clear l_ hA bh;have OO:=aa (show¬(vW=true/\br<=3)by rw[kK.out.1,kK.out.2];exact kX);clear kX kK k1 k2;cases vW with
  |false=>go_enter func42,ntmps42;go_wp2_with(first|(go_at_call 19;rw[<-dR];clear dR;refine(di _).mono ?_;rintro e X⟨rfl,hX⟩;have aZ:=(hX.block w.heap.size iA).trans o8)|(refine bK J 129 _ _ J w.heap.size (bm cu) J J 129 _ aZ gP J (ly _) ?_));refine ba (v:=az #[aw (bm cu),I R 0]) (n3 J _ _ w.heap.size (bm cu) _ J J J (aV _ _ _ _ _ _ aZ)) J ⟨?_,below_setRow (ax fM hX) (aA _) _⟩;rw[HV.out]
  |true=>
   have h3:(3:Int)<br:=by have:=OO.out;simp at this;omega
   go_enter func42,ntmps42;go_wp2_with(first|(go_at_call 19;rw[<-dR];clear dR;refine(di _).mono ?_;rintro e X⟨rfl,hX⟩;have aZ:=(hX.block w.heap.size iA).trans o8)|(refine bK J 129 _ _ J w.heap.size (bm cu) J J 129 _ aZ gP J (ly _) ?_));refine ba (v:=az #[aw (bm cu),I R 0]) (n3 J _ _ w.heap.size (bm cu) _ J J J (aV _ _ _ _ _ _ aZ)) J ⟨?_,below_setRow (ax fM hX) (aA _) _⟩;rw[HV.out]
theorem adj{a_:Array Oper}{rest:List Oper}{o:Oper}{a:Act}{W:ac}{aE:Exit->Act->ac->Prop}(de:o.guard=ab)(x al:Operand)(ho:o.op= .store 127 x al)(hd:o.dst=ab){w:ac}{r6:Nat}{c:CD}(ip:Nat)(nb lo hi:Int)(hx:a.eval x=av (U ⟨r6,5,ab⟩))(hy:a.eval al=aw #[I aj ip,I R nb,I R lo,I R hi])(hD:iB w r6 c W)(h:∀W',iB w r6 ⟨c.a6,c.op,c.v,c.m,c.ny,⟨ip,nb,lo,hi⟩⟩ W'->wpList ae a_ aE rest a W'):wpList ae a_ aE (o::rest) a W:=by
 obtain⟨a6,op,v,m,g,⟨i0,b_,l0,h0⟩⟩:=c;refine wpList_store_mid de 127 x al ho r6 5 #[I aj ip,I R nb,I R lo,I R hi] hx hy (fun j hj=>?_) abD (by simp[Value.oneCell']) ?_;.rw[hD.cell,hD.b5];refine⟨?_,J⟩;have nz:j<4:=hj;rcases(by omega:j=0\/j=1\/j=2\/j=3)with rfl|rfl|rfl|rfl<;>rfl
 .rw[hd];refine h _ ?_;exact(((hD.set 5 (I aj ip) ⟨a6,op,v,m,g,⟨ip,b_,l0,h0⟩⟩ (by rfl)).set 6 (I R nb) ⟨a6,op,v,m,g,⟨ip,nb,l0,h0⟩⟩ (by rfl)).set 7 (I R lo) ⟨a6,op,v,m,g,⟨ip,nb,lo,h0⟩⟩ (by rfl)).set 8 (I R hi) ⟨a6,op,v,m,g,⟨ip,nb,lo,hi⟩⟩ (by rfl)
set_option maxHeartbeats 4000000 in set_option maxRecDepth 100000 in theorem afd(a x:W8)(r:List W8)(c':∀al∈a::[105,110]::x::r,al.length<=9000)(oa:Option Addr)(cap:Nat)(w:ac)(hS:hq oa (a::[105,110]::x::r) w)(hl:(a::[105,110]::x::r).length<=9001)(hA:cz a=true/\bW a<=3):ap ae 42 #[ak oa (a::[105,110]::x::r).length cap] w fun e w'=>e=aq (jo (ee (a::[105,110]::x::r)))/\Below w.heap.size w w':=by
 have gJ:=aa (show ee (a::[105,110]::x::r)=(match ca x with|U (ip,b,lo,hi)=>U (⟨bW a,9,0,0,fH,⟨ip,b,lo,hi⟩⟩,3)|ab=>ab)by rw[GC,if_pos hA,if_neg (by decide),if_neg (by decide),if_pos J];try rfl);have va:=fun X=>aj7 (bs x) (by rw[ct];exact c' x (by simp)) X;rw[fy]at va;obtain⟨b,off,rfl,ds,H⟩:=hS.ez (by simp);obtain⟨n,u⟩:=af (a::[105,110]::x::r).length;have k0:=H 0 a J;rw[po]at k0;have k1:=H 1 [105,110] J;have k2:=H 2 x J;have G:=aa H;have yU:3<=n:=by rw[u];simp
 have jb:n<=9001:=by omega
 have HN:=aa u;rw[<-u];clear u H hS hl;obtain⟨V0,dR,fM,o8,iA⟩:∃V,V=w.alloc (.cells #[I R 0,I R 0,I ah 0,I ah 0,ad ⟨#[]⟩,I aj 0,I R 0,I R 0,I R 0] 129)/\Below w.heap.size w V/\V.heap[w.heap.size]?=U (.cells (bm cu) 129 (0,0))/\w.heap.size<V.heap.size:=⟨_,J,ai _ _,a7 _ _,by rw[World.size_alloc];omega⟩;have di:=fun X=>tz (bs a) (by rw[ct];have:=c' a (by simp);omega) X;rw[fy]at di;unfold oh at di;obtain⟨CJ,l_⟩:=af (bs a);rw[<-l_]at di k0;obtain⟨br,hA⟩:=af (bW a);obtain⟨vW,bh⟩:=af (cz a);rw[<-hA,<-bh]at di;have kK:=aa (And.intro hA bh);clear l_ hA bh;have QU:br<=3:=by rw[kK.out.1];exact hA.2
 obtain rfl:vW=true:=by rw[kK.out.2];exact hA.1
 have sh:R.wrap (br:Int)=br:=by rw[jP];omega
 unfold bs at k1;rw[<-kK.out.1]at gJ;obtain⟨B,N⟩:=af (bs x);rw[<-N]at k2 va;clear N;cases hp:ca x with
  |none=>have HV:=aa (show jo (ee (a::[105,110]::x::r))=az #[aw (bm cu),I R 0]by rw[gJ.out,hp];rfl);rw[hp]at va;unfold O4 at va;simp only at va;clear gJ hp;go_enter func42,ntmps42;go_wp2_with fail;rw[<-dR];clear dR;refine(di _).mono ?_;rintro e X1⟨rfl,c5⟩;have S:=aa (ax fM c5);have HR:=aa ((c5.block w.heap.size iA).trans o8);clear c5 di k0;have l0:w.heap.size<X1.heap.size:=(bM.1 HR.out).1;have qb:b<X1.heap.size:=dk ds S.out.size;have HS:=aa (iB.start (X:=X1) ⟨br,0,0,0,⟨#[]⟩,bZ⟩ S.out HR.out);have j1:=ao S.out k1;have j2:=ao S.out k2;go_wp2_with fail;refine(va _).mono ?_;rintro e Y1⟨rfl,jc⟩;have eO:=aa (HS.out.au jc);clear jc HS j1 j2;have aZ:=fun o=>(eO.out.au (ai Y1 o)).ci;go_wp2_with(refine bK J 129 _ _ J w.heap.size (bm cu) J J 129 _ (aZ _) gP J (ly _) ?_);refine ba (v:=az #[aw (bm cu),I R 0]) (n3 J _ _ w.heap.size (bm cu) _ J J J (aV _ _ _ _ _ _ (aZ _))) J ⟨?_,below_setRow (ax eO.out.below (ai _ _)) (aA _) _⟩;rw[HV.out]
  |some v=>obtain⟨ip,nb,lo,hi⟩:=v;have HV:=aa (show jo (ee (a::[105,110]::x::r))=az #[aw (bm ⟨br,9,0,0,⟨#[]⟩,⟨ip,nb,lo,hi⟩⟩),I R 3]by rw[gJ.out,hp];rfl);rw[hp]at va;unfold O4 at va;simp only at va;clear gJ hp;go_enter func42,ntmps42;go_wp2_with fail;rw[<-dR];clear dR;refine(di _).mono ?_;rintro e X1⟨rfl,c5⟩;have S:=aa (ax fM c5);have HR:=aa ((c5.block w.heap.size iA).trans o8);clear c5 di k0;have l0:w.heap.size<X1.heap.size:=(bM.1 HR.out).1;have qb:b<X1.heap.size:=dk ds S.out.size;have HS:=aa (iB.start (X:=X1) ⟨br,0,0,0,⟨#[]⟩,bZ⟩ S.out HR.out);have j1:=ao S.out k1;have j2:=ao S.out k2;go_wp2_with fail;refine yk (W0:=X1.alloc (.cells #[I R br,I R 0,I ah 0,I ah 0,ad ⟨#[]⟩,I aj 0,I R 0,I R 0,I R 0] 129)) (iB w X1.heap.size ⟨br,0,0,0,⟨#[]⟩,bZ⟩) HS.out ?_;clear HS j1 j2 S HR;obtain⟨r6,lz⟩:=af X1.heap.size;rw[<-lz];clear lz l0 qb;intro Y hY;refine(va _).mono ?_;rintro e Y1⟨rfl,jc⟩;have eO:=aa (hY.au jc);clear hY jc va k1 k2;have eI:=aa (eO.out.au (ai Y1 (.cells #[I aj ip,I R nb,I R lo,I R hi] 127)));have ajP:r6<Y1.heap.size:=(bM.1 eO.out.row).1;have apR:w.heap.size<Y1.heap.size:=(bM.1 eO.out.ci).1;have c0:=eO.out.cell 0;have c1:=eO.out.cell 1;have c2:=eO.out.cell 2;have c3:=eO.out.cell 3;have fj:=eO.out.cell 4;have nD:=eO.out.cell 5;have lv:=eO.out.cell 6;have o4:=eO.out.cell 7;have iX:=eO.out.cell 8;simp only[bm,bZ,cK,cT,c7]at c0 c1 c2 c3 fj nD lv o4 iX;have f1:=eO.out.b5 1;have f5:=eO.out.b5 5;have f6:=eO.out.b5 6;have f7:=eO.out.b5 7;have f8:=eO.out.b5 8;have dC:=aa ((eO.out.set 1 (I R 9) ⟨br,9,0,0,⟨#[]⟩,bZ⟩ (by rfl)).au (ai _ (.cells #[I aj ip,I R nb,I R lo,I R hi] 127)));go_wp2_with(first|(refine adj J _ _ J J ip nb lo hi J J dC.out ?_;intro W' hD;have HD:=aa hD;clear hD;clear c0 c1 c2 c3 fj nD lv o4 iX;have c0:=HD.out.cell 0;have c1:=HD.out.cell 1;have c2:=HD.out.cell 2;have c3:=HD.out.cell 3;have fj:=HD.out.cell 4;have nD:=HD.out.cell 5;have lv:=HD.out.cell 6;have o4:=HD.out.cell 7;have iX:=HD.out.cell 8;simp only[bm,cK,cT,c7]at c0 c1 c2 c3 fj nD lv o4 iX;have uc:=HD.out.ci)|(refine bK J 129 _ _ J w.heap.size (bm ⟨br,9,0,0,⟨#[]⟩,⟨ip,nb,lo,hi⟩⟩) J J 129 _ uc gP J (ly _) ?_));refine ba (v:=az #[aw (bm ⟨br,9,0,0,⟨#[]⟩,⟨ip,nb,lo,hi⟩⟩),I R 3]) (n3 J _ _ w.heap.size (bm ⟨br,9,0,0,⟨#[]⟩,⟨ip,nb,lo,hi⟩⟩) _ J J J (aV _ _ _ _ _ _ uc)) J ⟨?_,below_setRow HD.out.below (aA _) _⟩;rw[HV.out]
set_option maxHeartbeats 1000000 in theorem abU(a:bG)(w:ac):ap ae 43 #[fe a] w fun e w'=>e=aq (I R (dl a))/\Below w.heap.size w w':=by
 obtain⟨k,e⟩:=a;have HF:=aa (show dl ⟨k,e⟩=if k≠1/\k≠2/\k≠3 then 3 else if k≠2/\e≠0 then 3 else if k=2/\(e<1\/255<e)then 1 else 0 from J);obtain⟨f,M⟩:=af (dl ⟨k,e⟩);rw[<-M]at HF⊢;clear M;unfold fe;simp only;by_cases h2:k=2
 .subst h2;have ps:=aa (show f=if e<1\/255<e then 1 else 0 by rw[HF.out,if_neg (by omega),if_neg (by omega)];simp);clear HF;by_cases q:e<1;.have jL:=aa (show(f:Int)=1 by rw[ps.out,if_pos (by omega)];rfl);clear ps;go_enter func43,ntmps43;go_wp2;go_ret;exact⟨by rw[jL.out];rfl,ai _ _⟩
  .by_cases h5:255<e;.have jL:=aa (show(f:Int)=1 by rw[ps.out,if_pos (by omega)];rfl);clear ps;go_enter func43,ntmps43;go_wp2;go_ret;exact⟨by rw[jL.out];rfl,ai _ _⟩
   .have jL:=aa (show(f:Int)=0 by rw[ps.out,if_neg (by omega)];rfl);clear ps;go_enter func43,ntmps43;go_wp2;go_ret;exact⟨by rw[jL.out];rfl,ai _ _⟩
 .by_cases h0:e=0
  .subst h0;by_cases q:k=1;.subst q;have jL:=aa (show(f:Int)=0 by rw[HF.out];rfl);clear HF;go_enter func43,ntmps43;go_wp2;go_ret;exact⟨by rw[jL.out];rfl,ai _ _⟩
   .by_cases h3:k=3;.subst h3;have jL:=aa (show(f:Int)=0 by rw[HF.out];rfl);clear HF;go_enter func43,ntmps43;go_wp2;go_ret;exact⟨by rw[jL.out];rfl,ai _ _⟩
    .have jL:=aa (show(f:Int)=3 by rw[HF.out,if_pos ⟨q,h2,h3⟩];rfl);clear HF;go_enter func43,ntmps43;go_wp2;go_ret;exact⟨by rw[jL.out];rfl,ai _ _⟩
  .have jL:=aa (show(f:Int)=3 by
    rw[HF.out];by_cases h:k≠1/\k≠2/\k≠3;.rw[if_pos h];rfl
    .rw[if_neg h,if_pos ⟨h2,h0⟩];rfl);clear HF;go_enter func43,ntmps43;go_wp2;all_goals go_ret;exact⟨by rw[jL.out];rfl,ai _ _⟩
theorem abi(p:ByteArray)(w:ac):ap ae 76 #[ad p] w fun e w'=>e=aq (I R (nA p))/\Below w.heap.size w w':=by
 by_cases h:24<p.size;.have HE:=aa (show(nA p:Int)=2 by unfold nA Gl.aqp;rw[if_pos h];rfl);go_enter func76,ntmps76;go_wp2;go_ret;exact⟨by rw[HE.out];rfl,Below.refl _ _⟩
 .refine(Gl.OA p (by omega) w).mono ?_;rintro e w'⟨rfl,hb⟩;refine⟨?_,hb⟩;unfold nA Gl.rA;cases hp:Gl.aqp p with
   |inr Z=>rfl
   |inl n=>rfl
theorem aoZ(nr:Int)(c:CD)(w:ac)(h:c.a6<0\/3<c.a6\/c.op<1\/9<c.op):ap ae 44 #[I R nr,e9 c] w fun e w'=>e=aq (I R 1)/\Below w.heap.size w w':=by obtain⟨a6,op,v,m,g,⟨ip,b,lo,hi⟩⟩:=c;unfold e9;simp only at h⊢;go_enter func44,ntmps44;go_wp2;all_goals first|omega|(go_ret;exact⟨J,ai _ _⟩)
set_option maxHeartbeats 4000000 in set_option maxRecDepth 100000 in theorem akL(nr a:Nat)(b0:nr<9)(ha:a<=3)(op:Int)(v m:Nat)(g:ByteArray)(ip:Nat)(b lo hi:Int)(q:¬op<1)(h9:¬9<op)(w:ac)(h:a1 nr a≠fA op):ap ae 44 #[I R nr,e9 ⟨a,op,v,m,g,⟨ip,b,lo,hi⟩⟩] w fun e w'=>e=aq (I R 3)/\Below w.heap.size w w':=by
 have HK:=fun X=>wC nr a b0 (by omega) X;obtain⟨ka,el⟩:=af (a1 nr a);rw[<-el]at HK h;clear el;unfold e9;simp only;have i1:¬(a:Int)<0:=by omega
 have i2:¬3<(a:Int):=by omega
 by_cases h8:op=8
 .subst h8;have bo:¬(ka:Int)=2:=by unfold fA at h;simp at h;omega
  have vw:((ka:Int)!=2)=true:=by simpa using bo
  go_enter func44,ntmps44;go_wp2_with(go_at_call 47;refine(HK _).mono ?_;rintro e X⟨rfl,rfl⟩);go_ret;exact⟨J,ax (ai _ _) (ai _ _)⟩
 by_cases h9:op=9
 .subst h9;have bo:¬(ka:Int)=3:=by unfold fA at h;simp at h;omega
  have vw:((ka:Int)!=3)=true:=by simpa using bo
  go_enter func44,ntmps44;go_wp2_with(go_at_call 47;refine(HK _).mono ?_;rintro e X⟨rfl,rfl⟩);go_ret;exact⟨J,ax (ai _ _) (ai _ _)⟩
 .have bo:¬(ka:Int)=1:=by unfold fA at h;rw[if_neg h8,if_neg h9]at h;omega
  have vw:((ka:Int)!=1)=true:=by simpa using bo
  go_enter func44,ntmps44;go_wp2_with(go_at_call 47;refine(HK _).mono ?_;rintro e X⟨rfl,rfl⟩);go_ret;exact⟨J,ax (ai _ _) (ai _ _)⟩
end Go.Proofs.YtefdakbahplnbaaGreatDoor
