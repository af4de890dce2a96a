/- snap. -/
import Derived.Test.YtefdakbahplnbaaGreatDoorK25
open Go.Proofs.Tryz
open Array renaming getElem?_eq_some_iff->bM
open Go renaming Value->ag,World->ac,cell_of_row->aT,frozen_of_row->cy,setCell_eq_setRow->cJ,setRow_heap->aV
open Go.Value renaming int->I,pointer->av,string->ad
open List renaming getElem?_cons_succ->c7,getElem?_cons_zero->cT,getElem?_toArray->cK
open Option renaming none->ab,some->U
namespace Go.Proofs.YtefdakbahplnbaaGreatDoor
open Go.RowKit Mm
structure SX(g O:Nat)(P:PV)(s:WS)(y:ag)(oa:Option Addr)(l:List Nat)(ka:Array ag)(r6:Nat)(W X:ac):Prop where
 bI:WX g O P s y X
 wa:oU W.heap.size oa l X
 box:X.heap[r6]?=U (.cells ka 185 (0,0))
 cF:W.heap.size<=r6
 fr:Below W.heap.size W X
theorem SX.bk{g O:Nat}{P:PV}{s:WS}{y:ag}{oa:Option Addr}{l:List Nat}(ka:Array ag){W Y:ac}(aI:Array ag)(h:WX g O P s y W)(hi:oU W.heap.size oa l Y)(hb:Below W.heap.size W Y):SX g O P s y oa l ka Y.heap.size W ((Y.alloc (.cells aI 185)).setRow Y.heap.size ka):=by have q:Below Y.heap.size Y ((Y.alloc (.cells aI 185)).setRow Y.heap.size ka):=below_setRow (ai Y _) (Nat.le_refl _) _;exact⟨(h.au hb).au q,hi.au q,aV _ _ _ _ _ _ (heap_alloc_new Y _),hb.size,ax hb q⟩
theorem SX.au{g O:Nat}{P:PV}{s:WS}{y:ag}{oa:Option Addr}{l:List Nat}{ka:Array ag}{r6:Nat}{W X aK:ac}(h:SX g O P s y oa l ka r6 W X)(hb:Below X.heap.size X aK):SX g O P s y oa l ka r6 W aK:=⟨h.bI.au hb,h.wa.au hb,(hb.block _ (bM.1 h.box).1).trans h.box,h.cF,ax h.fr hb⟩
theorem Z9{W:ac}{r:Nat}(h:W.heap[r]?=U (.cells #[ad ⟨#[]⟩,I .u32 0,I .i64 0] 71 (0,0))):(W.cell? ⟨r,0,ab⟩=U (ad ⟨#[]⟩)/\W.cell? ⟨r,1,ab⟩=U (I .u32 0)/\W.cell? ⟨r,2,ab⟩=U (I .i64 0))/\W.frozen? ⟨r,0,ab⟩=false/\W.frozen? ⟨r,1,ab⟩=false/\W.frozen? ⟨r,2,ab⟩=false:=⟨⟨aT _ _ 0 _ _ _ h,aT _ _ 1 _ _ _ h,aT _ _ 2 _ _ _ h⟩,cy _ _ 0 _ _ h,cy _ _ 1 _ _ h,cy _ _ 2 _ _ h⟩
theorem MZ{W:ac}{r:Nat}(h:W.heap[r]?=U (.cells #[ad ⟨#[]⟩,I .u32 0,I .i64 0] 71 (0,0)))(v0 v1 v2:ag):((W.setCell ⟨r,0,ab⟩ v0).setCell ⟨r,1,ab⟩ v1).setCell ⟨r,2,ab⟩ v2=W.setRow r #[v0,v1,v2]:=by rw[cJ _ _ 0 _ _ _ _ h,cJ _ _ 1 _ _ _ _ (aV _ _ _ _ _ _ h),l' _ _ _ _ _ _ h,cJ _ _ 2 _ _ _ _ (aV _ _ _ _ _ _ h),l' _ _ _ _ _ _ h];rfl
theorem Mr(W:ac)(r x:Nat)(hx:x<256)(H:W.cell? ⟨r,0,ab⟩=U (I .u8 x)):(convert 134 9 (.slice (U ⟨r,0,ab⟩) 1 1)).run Tryz.prog W= .ok (ad (bs [UInt8.ofNat x])) W:=run_convert_bytes_back (P:=Tryz.prog) W 134 9 5 ⟨r,0,ab⟩ 1 [UInt8.ofNat x] underlying134 underlying5 underlying9 fun j hj=>by
 obtain rfl:j=0:=by simpa using hj
 rw[show(⟨r,0,ab⟩:Addr).add 0=⟨r,0,ab⟩from J,H];show _=U (I .u8 ((UInt8.ofNat x).toNat:Int));rw[UInt8.toNat_ofNat',Nat.mod_eq_of_lt (show x<2^8 from hx)]
theorem SX.fr'{g O:Nat}{P:PV}{s s':WS}{y a8:ag}{oa:Option Addr}{l:List Nat}{ka:Array ag}{r6:Nat}{W X aK:ac}(h:SX g O P s y oa l ka r6 W X)(h0:WX g O P s y W)(hw:WX g O P s' a8 aK)(M:Fr g O y a8 X aK):WX g O P s' a8 aK/\oU W.heap.size oa l aK/\aK.heap[r6]?=U (.cells ka 185 (0,0))/\Fr g O y a8 W aK:=by
 have hg:=h0.gh;have hm:=h0.sR;have hl:∀k,W.heap.size<=k->y.ownBlock≠U k:=fun k z e=>by have:=(h0.cW.lt k e).2;omega
 have hb:=h.cF;exact⟨hw,h.wa.heap (fun k q h2=>M.block k h2 (by omega) (by omega) (hl k q)) M.size,(M.block r6 (bM.1 h.box).1 (by omega) (by omega) (hl r6 hb)).trans h.box,(Fr.bk y h.fr).trans M⟩
theorem aeh{g O:Nat}{P:PV}{s:WS}{y:ag}{W:ac}(k:Nat)(v:VL)(hv:rz k v)(hl:(gU k v).length<=64){B:Nat}(N:kW s.mem=U B)(h:WX g O P s y W):Calls Tryz.prog 191 #[av (U ⟨g,0,ab⟩),I .i64 k, .agg (eo v)] W fun e w'=>e= .returned (.tuple #[I .u64 ((B*64:Nat):Int), .nilIface])/\WX g O P {s with mem:=jI s.mem B (gU k v)} y w'/\Fr g O y y W w':=by have S:=UH k v hv (W.alloc (.cells (eo v) 71));have HX:=aa (h.au (ai W (.cells (eo v) 71)));have HS:=fun X(hX:WX g O P s y X)=>ank hX.mem N (bs (gU k v)) (by rw[ct];exact hl);rw[show(bs (gU k v)).data.toList=gU k v from J]at HS;obtain⟨D,hB⟩:=af (gU k v);rw[<-hB]at S HS;rw[<-hB];obtain⟨bf,ip,aB⟩:=v;unfold eo at S HX⊢;obtain⟨V,hV,dp,jt,iM⟩:=eN W #[ad bf,I .u32 ip,I .i64 aB] 71;have c0:=iM 0;have c1:=iM 1;have c2:=iM 2;simp only[cK,cT,c7]at c0 c1 c2;simp only at hV S HX⊢;obtain⟨aI,hz⟩:∃aI:Int,aI=((B*64:Nat):Int):=⟨_,J⟩;rw[<-hz]at HS;rw[<-hz];rw[<-hV]at S HX;clear h hB hv hl iM jt N hz;go_enter func191,ntmps191;go_wp2_with fail;rw[<-hV];refine S.mono ?_;rintro e w1⟨rfl,bb⟩;have jY:=aa (HX.out.au bb);have c4:=aa ((Fr.bk (g:=g) (O:=O) y dp).trans (Fr.bk y bb));have cp:=jY.out.ptr;clear bb HX S c0 c1 c2;go_wp2_with fail;refine(HS w1 jY.out).mono ?_;rintro e w2⟨rfl,hm,hg⟩;go_wp2;go_ret2;exact⟨J,jY.out.me hm hg,c4.out.trans (Fr.grown y hg (.inr J))⟩
theorem alq{g O:Nat}{P:PV}{s:WS}{y:ag}{W:ac}(k:Nat)(v:VL)(hv:rz k v)(hl:(gU k v).length<=64)(N:kW s.mem=ab)(h:WX g O P s y W):Calls Tryz.prog 191 #[av (U ⟨g,0,ab⟩),I .i64 k, .agg (eo v)] W fun e w'=>e= .returned (.tuple #[I .u64 0, .iface 43 (I .i64 9)])/\WX g O P s y w'/\Fr g O y y W w':=by have S:=UH k v hv (W.alloc (.cells (eo v) 71));have HX:=aa (h.au (ai W (.cells (eo v) 71)));have HS:=fun X(hX:WX g O P s y X)=>aeG hX.mem N (bs (gU k v)) (by rw[ct];exact hl);obtain⟨D,hB⟩:=af (gU k v);rw[<-hB]at S HS;obtain⟨bf,ip,aB⟩:=v;unfold eo at S HX⊢;obtain⟨V,hV,dp,jt,iM⟩:=eN W #[ad bf,I .u32 ip,I .i64 aB] 71;have c0:=iM 0;have c1:=iM 1;have c2:=iM 2;simp only[cK,cT,c7]at c0 c1 c2;simp only at hV S HX⊢;rw[<-hV]at S HX;clear h hB hv hl iM jt N;go_enter func191,ntmps191;go_wp2_with fail;rw[<-hV];refine S.mono ?_;rintro e w1⟨rfl,bb⟩;have jY:=aa (HX.out.au bb);have c4:=aa ((Fr.bk (g:=g) (O:=O) y dp).trans (Fr.bk y bb));have cp:=jY.out.ptr;clear bb HX S c0 c1 c2;go_wp2_with fail;refine(HS w1 jY.out).mono ?_;rintro e w2⟨rfl,hm,hg⟩;go_wp2;go_ret2;exact⟨J,jY.out.me hm hg,c4.out.trans (Fr.grown y hg (.inr J))⟩
end Go.Proofs.YtefdakbahplnbaaGreatDoor
