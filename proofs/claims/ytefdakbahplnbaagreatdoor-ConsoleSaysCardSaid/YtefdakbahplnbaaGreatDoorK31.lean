/- seal. -/
import Derived.Test.YtefdakbahplnbaaGreatDoorK26
import Derived.Test.YtefdakbahplnbaaGreatDoorK27
open Go.Proofs.Tryz
open Array renaming getElem?_eq_some_iff->bM
open Go renaming Addr->bl,Calls->ap,Value->ag,World->ac,cell_of_row->aT,heap_alloc_new->a7,setRow_heap->aV,wpList_store_row->bK
open Go.Act renaming put->ar
open Go.IntKind renaming i64->R,u32->aj,u64->ah
open Go.Value renaming int->I,pointer->av,string->ad
open List renaming drop_eq_getElem_cons->N7,drop_eq_nil_of_le->sD,drop_zero->FM,getElem?_eq_getElem->cq,length_cons->fh,mem_of_getElem?->iy
open Nat renaming add_assoc->oy,ne_of_lt->xo,sub_self->zd
open Option renaming none->ab,some->U
namespace Go.Proofs.YtefdakbahplnbaaGreatDoor
open Go.RowKit Mm
structure SY(g O:Nat)(P:PV)(s:WS)(y:ag)(oa:Option bl)(l:List Nat)(ka:Array ag)(r6:Nat)(W X:ac):Prop where
 bI:WX g O P s y X
 wa:oU W.heap.size oa l X
 box:X.heap[r6]?=U (.cells ka 185 (0,0))
 cF:W.heap.size<=r6
 fr:Fr g O y y W X
theorem SX.al{g O:Nat}{P:PV}{s:WS}{y:ag}{oa:Option bl}{l:List Nat}{ka:Array ag}{r6:Nat}{W X:ac}(h:SX g O P s y oa l ka r6 W X):SY g O P s y oa l ka r6 W X:=⟨h.bI,h.wa,h.box,h.cF,Fr.bk y h.fr⟩
theorem SY.step{g O:Nat}{P:PV}{s s' s0:WS}{y:ag}{oa:Option bl}{l:List Nat}{ka:Array ag}{r6:Nat}{W X aK:ac}(h:SY g O P s y oa l ka r6 W X)(h0:WX g O P s0 y W)(hw:WX g O P s' y aK)(M:Fr g O y y X aK):SY g O P s' y oa l ka r6 W aK:=by
 have hg:=h0.gh;have hm:=h0.sR;have hl:∀k,W.heap.size<=k->y.ownBlock≠U k:=fun k z e=>by have:=(h0.cW.lt k e).2;omega
 have hb:=h.cF;exact⟨hw,h.wa.heap (fun k q h2=>M.block k h2 (by omega) (by omega) (hl k q)) M.size,(M.block r6 (bM.1 h.box).1 (by omega) (by omega) (hl r6 hb)).trans h.box,hb,h.fr.trans M⟩
theorem SY.au{g O:Nat}{P:PV}{s s0:WS}{y:ag}{oa:Option bl}{l:List Nat}{ka:Array ag}{r6:Nat}{W X aK:ac}(h:SY g O P s y oa l ka r6 W X)(h0:WX g O P s0 y W)(hb:Below X.heap.size X aK):SY g O P s y oa l ka r6 W aK:=h.step h0 (h.bI.au hb) (Fr.bk y hb)
theorem aiB(n i:Nat)(r:List Nat)(s:WS){B:Nat}(h:kW s.mem=U B):jm n (i::r) s=jm n r ⟨aO s.T n {s.T n with args:=aO (s.T n).args i (B*64),bV:=aO (s.T n).bV i true},jI s.mem B (gU (a1 (s.T n).call.nr i) ((s.T n).aG i)),s.aX⟩:=by
 conv=>lhs;rw[jm]
 rw[h]
theorem ady(n i:Nat)(r:List Nat)(s:WS)(h:kW s.mem=ab):jm n (i::r) s=ec n 2 12 cb s:=by rw[jm,h]
structure SM(n:Nat)(nr:Nat)(aG:Nat->VL)(s1:WS):Prop where
 nr:(s1.T n).call.nr=nr
 aG:(s1.T n).aG=aG
 aX:s1.aX.length<=1000000
set_option maxHeartbeats 4000000 in set_option maxRecDepth 20000 in theorem aog{g O:Nat}{P:PV}{s:WS}{y:ag}{W:ac}(n:Nat)(u:n<3)(hi:dT P.p s)(bv:(s.T n).phase=4)(h:WX g O P s y W)(cQ:s.aX.length<=1000000):ap Tryz.prog 146 #[av (U ⟨g,0,ab⟩),I R n] W (lu g O P (z8 n s) y W):=by
 have j1:(0:Int)<=n:=by omega
 have j2:(n:Int)<3:=by omega
 have ht:=hi.cg n u;have b0:=ht.zh (by omega) (by omega);have ww:=ht.oH (by omega) (by omega);rw[(ht.MN (by omega) (by omega)).1,List.take_length]at ww;have HP:=TI (s.T n).call b0 W;unfold cR bX at HP;have x1:=h.th n 1 u (by omega);have x2:=h.th n 2 u (by omega);have x3:=h.th n 3 u (by omega);have x4:=h.th n 4 u (by omega);have x5:=h.th n 5 u (by omega);have x6:=h.th n 6 u (by omega);rw[(eP _).1]at x1;rw[(eP _).2.1]at x2;rw[(eP _).2.2.1]at x3;rw[(eP _).2.2.2.1]at x4;rw[(eP _).2.2.2.2.1]at x5;rw[(eP _).2.2.2.2.2]at x6;have iq:=aa (show z8 n s=jm n (bx (s.T n).call.nr) s from J);have zH:Hid (∀i∈bx (s.T n).call.nr,rz (a1 (s.T n).call.nr i) ((s.T n).aG i)):=aa (fun i hi=>(ww i).1 hi);obtain⟨nr,Ck⟩:=af (s.T n).call.nr;obtain⟨aG,SD⟩:=af (s.T n).aG;have HM0:Hid (SM n nr aG s):=aa ⟨Ck.symm,SD.symm,cQ⟩;rw[<-Ck]at HP iq zH x2;rw[<-SD]at zH;obtain⟨ka,el⟩:=af (ra nr);have uf:ka.size=4:=by rw[el];rfl
 have zW:ka.all (·.oneCell')=true:=by rw[el];exact Sh _
 have ln:=aa el;rw[<-el]at HP;obtain⟨g5,oN⟩:=af (bx nr);have qA:=aa oN;rw[<-oN]at HP iq zH;obtain⟨aC,hL⟩:=af g5.length;have HL:=aa hL;have UU:aC<=2:=by rw[hL,oN];exact Gz _
 rw[<-hL]at HP;have HH:=aa h;obtain⟨C9,hG⟩:=af (lu g O P (z8 n s) y W);have HG:Hid (∀a8 e w',e= .returned (.tuple #[])->WX g O P (jm n g5 s) a8 w'->Fr g O y a8 W w'->C9 e w'):=aa (fun a8 e w' q h2 h3=>by rw[hG];exact⟨q,a8,by rw[iq.out];exact h2,h3⟩);rw[<-hG];clear h ht hi el oN hL ww bv cQ b0 Ck SD hG iq;go_enter func146,ntmps146;go_wp2_with fail;refine HP.mono ?_;rintro e Y⟨⟨oa,cap,rfl,su,Q9,Ab⟩,hY⟩;have HS:=aa (SX.bk ka #[I R 0,I R 0,I R 0,I R 0] HH.out Ab hY).al;obtain⟨X,hX⟩:=af ((Y.alloc (.cells #[I R 0,I R 0,I R 0,I R 0] 185)).setRow Y.heap.size ka);rw[<-hX]at HS;clear HP x1 x2 x3 x4 x5 x6 Ab;go_wp2_with(refine bK J 185 _ _ J Y.heap.size ka J J 185 _ (a7 Y _) (by rw[uf];exact KO) (by rw[uf];rfl) zW ?_;rw[<-hX];clear hX);obtain⟨r6,lz⟩:=af Y.heap.size;rw[<-lz]at HS;rw[<-lz];clear lz hY uf zW;go_loopw[26](fun aL w'=>∃(i:Nat)(s1:WS),i<=aC/\aL=I R i/\Hid (SY g O P s1 y oa g5 ka r6 W w')/\Hid (SM n nr aG s1)/\Hid (jm n g5 s=jm n (g5.drop i) s1))(fun aL _=>aC-(intOf aL).toNat);case atStart=>exact⟨0,s,by omega,J,HS,HM0,aa (by rw[FM])⟩
 case round=>
  obtain⟨i,s1,hi,rfl,HX,HM,HE⟩:=hrel;clear HS;by_cases am:i<aC
  .obtain⟨bn,bE⟩:∃a,g5[i]?=U a:=⟨_,cq (by rw[<-HL.out];exact am)⟩;have lQ:=iy bE;obtain⟨_,mP,nn⟩:=sj (show bn∈bx nr by rw[<-qA.out];exact lQ);have rJ:=aa (zH.out bn lQ);have IX:g5.drop i=bn::g5.drop (i+1):=by rw[N7 (by rw[<-HL.out];exact am)];congr 1;rw[cq (by rw[<-HL.out];exact am)]at bE;exact Option.some.inj bE
   rw[IX]at HE;obtain⟨b,off,rfl,ds,jS,ro⟩:=HX.out.wa.ez (by rw[<-HL.out];omega);have y0:=ro i bn bE;obtain⟨k,z⟩:=af (a1 nr bn);obtain⟨⟨bf,ip,aB⟩,eE⟩:=af (aG bn);have y1:wr.cell? ⟨r6,bn,ab⟩=U (I R (k:Nat)):=by rw[aT _ _ _ _ _ _ HX.out.box,ln.out,z];exact EW _ _ mP
   have ow:=m_ (s1.T n) bn;rw[HM.out.aG,<-eE]at ow;have y2:wr.cell? ⟨g,4+n*29+17+bn*3,ab⟩=U (ad bf):=by rw[show 4+n*29+17+bn*3=4+n*29+(17+bn*3)by omega,HX.out.bI.th n _ u (by omega),ow.1]
   have y3:wr.cell? ⟨g,4+n*29+17+bn*3+1,ab⟩=U (I aj ip):=by rw[show 4+n*29+17+bn*3+1=4+n*29+(17+bn*3+1)by omega,HX.out.bI.th n _ u (by omega),ow.2.1]
   have y4:wr.cell? ⟨g,4+n*29+17+bn*3+2,ab⟩=U (I R aB):=by rw[show 4+n*29+17+bn*3+2=4+n*29+(17+bn*3+2)by omega,HX.out.bI.th n _ u (by omega),ow.2.2]
   have i1:(0:Int)<=i:=by omega
   have i2:(i:Int)<aC:=by omega
   have i3:(0:Int)<=bn:=by omega
   have i4:(bn:Int)<4:=by omega
   have Bn:=aa z;rw[<-z,<-eE]at rJ;rw[<-z]at nn;have p9:=aa eE;clear ro bE lQ IX ow z eE;have HD:=aa (HX.out.au HH.out (Below.refl _ wr).drew);replace y1:wr.drew.cell? _=_:=y1;replace y2:wr.drew.cell? _=_:=y2;replace y3:wr.drew.cell? _=_:=y3;replace y4:wr.drew.cell? _=_:=y4;have l6:=RT rJ.out;cases rb:kW s1.mem with
    |none=>as_aux_lemma=>have t6:=alq k ⟨bf,ip,aB⟩ rJ.out l6 rb HD.out.bI;unfold eo at t6;simp only at t6;have HZ:=aa (show jm n g5 s=ec n 2 12 cb s1 by rw[HE.out,ady n bn _ s1 rb]);clear rb l6;go_wp2_with fail;go_region_held3(fun w'=>w'.cell? ⟨r6,bn,ab⟩=U (I R (k:Nat))/\w'.cell? ⟨g,4+n*29+17+bn*3,ab⟩=U (ad bf)/\w'.cell? ⟨g,4+n*29+17+bn*3+1,ab⟩=U (I aj ip)/\w'.cell? ⟨g,4+n*29+17+bn*3+2,ab⟩=U (I R aB))(first|(with_reducible exact⟨y1,y2,y3,y4⟩)|(with_reducible exact⟨r1,r2,r3,r4⟩)|go_keep)((go_at_call 191;refine t6.mono ?_;rintro e Y2⟨rfl,hw,M⟩;have HY:=aa (HD.out.step HH.out hw M);have r1:Y2.cell? ⟨r6,bn,ab⟩=U (I R (k:Nat)):=(by rw[aT _ _ _ _ _ _ HY.out.box,ln.out,Bn.out];exact EW _ _ mP);have ow:=m_ (s1.T n) bn;rw[HM.out.aG,<-p9.out]at ow;have r2:Y2.cell? ⟨g,4+n*29+17+bn*3,ab⟩=U (ad bf):=(by rw[show 4+n*29+17+bn*3=4+n*29+(17+bn*3)by omega,HY.out.bI.th n _ u (by omega)];exact congrArg U ow.1);have r3:Y2.cell? ⟨g,4+n*29+17+bn*3+1,ab⟩=U (I aj ip):=(by rw[show 4+n*29+17+bn*3+1=4+n*29+(17+bn*3+1)by omega,HY.out.bI.th n _ u (by omega)];exact congrArg U ow.2.1);have r4:Y2.cell? ⟨g,4+n*29+17+bn*3+2,ab⟩=U (I R aB):=(by rw[show 4+n*29+17+bn*3+2=4+n*29+(17+bn*3+2)by omega,HY.out.bI.th n _ u (by omega)];exact congrArg U ow.2.2);clear hw M ow));have OS:=Mj n u 9 HY.out.bI HM.out.aX;clear r1 r2 r3 r4 y0 y1 y2 y3 y4 t6;go_wp2_with fail;refine OS.mono ?_;rintro e w' P';obtain⟨rfl,a8,q,h2⟩:=P';go_wp2;go_end0;exact HG.out a8 _ _ J (by rw[HZ.out];exact q) (HY.out.fr.trans h2)
    |some B=>
     as_aux_lemma=>
      have t6:=aeh k ⟨bf,ip,aB⟩ rJ.out l6 rb HD.out.bI;unfold eo at t6;simp only at t6;obtain⟨aI,hz⟩:=af (B*64);rw[<-hz]at t6;obtain⟨Tq,c'⟩:=af ({s1 with mem:=jI s1.mem B (gU k ⟨bf,ip,aB⟩)});rw[<-c']at t6;have HZ:=aa (show jm n g5 s=jm n (g5.drop (i+1)) (Tq.put n {s1.T n with args:=aO (s1.T n).args bn aI,bV:=aO (s1.T n).bV bn true})by rw[HE.out,aiB n bn _ s1 rb,c',hz,HM.out.nr,<-Bn.out,show(s1.T n).aG bn=⟨bf,ip,aB⟩by rw[HM.out.aG,<-p9.out]];rfl);have kC:=aa (show Tq.T n=s1.T n/\SM n nr aG (Tq.put n {s1.T n with args:=aO (s1.T n).args bn aI,bV:=aO (s1.T n).bV bn true})by rw[c'];exact⟨J,by rw[jp];exact HM.out.nr,by rw[jp];exact HM.out.aG,HM.out.aX⟩);clear rb l6 hz c';go_wp2_with fail;go_region_held3(fun w'=>w'.cell? ⟨r6,bn,ab⟩=U (I R (k:Nat))/\w'.cell? ⟨g,4+n*29+17+bn*3,ab⟩=U (ad bf)/\w'.cell? ⟨g,4+n*29+17+bn*3+1,ab⟩=U (I aj ip)/\w'.cell? ⟨g,4+n*29+17+bn*3+2,ab⟩=U (I R aB))(first|(with_reducible exact⟨y1,y2,y3,y4⟩)|(with_reducible exact⟨r1,r2,r3,r4⟩)|go_keep)((go_at_call 191;refine t6.mono ?_;rintro e Y2⟨rfl,hw,M⟩;have HY:=aa (HD.out.step HH.out hw M);have r1:Y2.cell? ⟨r6,bn,ab⟩=U (I R (k:Nat)):=(by rw[aT _ _ _ _ _ _ HY.out.box,ln.out,Bn.out];exact EW _ _ mP);have ow:=m_ (s1.T n) bn;rw[HM.out.aG,<-p9.out]at ow;have r2:Y2.cell? ⟨g,4+n*29+17+bn*3,ab⟩=U (ad bf):=(by rw[show 4+n*29+17+bn*3=4+n*29+(17+bn*3)by omega,HY.out.bI.th n _ u (by omega),kC.out.1];exact congrArg U ow.1);have r3:Y2.cell? ⟨g,4+n*29+17+bn*3+1,ab⟩=U (I aj ip):=(by rw[show 4+n*29+17+bn*3+1=4+n*29+(17+bn*3+1)by omega,HY.out.bI.th n _ u (by omega),kC.out.1];exact congrArg U ow.2.1);have r4:Y2.cell? ⟨g,4+n*29+17+bn*3+2,ab⟩=U (I R aB):=(by rw[show 4+n*29+17+bn*3+2=4+n*29+(17+bn*3+2)by omega,HY.out.bI.th n _ u (by omega),kC.out.1];exact congrArg U ow.2.2);clear hw M ow));clear r1 r2 r3 r4 y0 y1 y2 y3 y4 t6;have Np:=aa (HY.out.au HH.out (Below.refl _ Y2).drew);have qU:Y2.drew.cell? ⟨g,4+n*29+7+bn,ab⟩=U (I ah ((s1.T n).args bn:Nat)):=by rw[oy (4+n*29),Np.out.bI.th n (7+bn) u (by omega),GX _ _ mP,kC.out.1]
      have f7:Y2.drew.frozen? ⟨g,4+n*29+7+bn,ab⟩=false:=Np.out.bI.b5 _;have HA:=Np.out.bI.wg n (7+bn) u (by omega) (I ah (aI:Nat)) {s1.T n with args:=aO (s1.T n).args bn aI} (fun k _=>by rw[adp _ _ _ _ mP,kC.out.1]);rw[<-oy (4+n*29)]at HA;replace HA:=aa HA;have Wo:(Y2.drew.setCell ⟨g,4+n*29+7+bn,ab⟩ (I ah (aI:Nat))).cell? ⟨g,4+n*29+11+bn,ab⟩=U (.bool ((s1.T n).bV bn)):=by rw[oy (4+n*29) 11,HA.out.th n (11+bn) u (by omega),PI _ _ mP,jp]
      have f11:(Y2.drew.setCell ⟨g,4+n*29+7+bn,ab⟩ (I ah (aI:Nat))).frozen? ⟨g,4+n*29+11+bn,ab⟩=false:=HA.out.b5 _;have S:=HA.out.EG (11+bn) u (by omega) (.bool true) {s1.T n with args:=aO (s1.T n).args bn aI,bV:=aO (s1.T n).bV bn true} (fun k=>ajJ {s1.T n with args:=aO (s1.T n).args bn aI} bn k true mP);rw[<-oy (4+n*29)]at S;replace S:=aa (Np.out.step HH.out S ((Fr.set y _ _ _).trans (Fr.set y _ _ _)));replace Wo:(Y2.setCell ⟨g,4+n*29+7+bn,ab⟩ (I ah (aI:Nat))).drew.cell? _=_:=Wo;replace f11:(Y2.setCell ⟨g,4+n*29+7+bn,ab⟩ (I ah (aI:Nat))).drew.frozen? _=_:=f11;go_wp2_with fail;refine wp_region_any (by kernel_rfl) ?_;change wpAny _ _ _ _ _ _ _ (World.drew _);refine aW 0 (U 50) (av (U ⟨g,4+n*29,ab⟩)) ?_;try simp only[ar,LT]
      refine aW 1 (U 51) (I R (bn:Nat)) ?_;try simp only[ar,LT]
      refine aW 2 (U 52) (av (U ⟨g,4+n*29,ab⟩)) ?_;try simp only[ar,LT]
      refine aW 3 (U 53) (I R (bn:Nat)) ?_;try simp only[ar,LT]
      refine aW 4 (U 54) (I ah (aI:Nat)) ?_;try simp only[ar,LT]
      refine aW 5 (U 55) (av (U ⟨g,4+n*29,ab⟩)) ?_;try simp only[ar,LT]
      refine aW 6 (U 56) (av (U ⟨g,4+n*29+7,ab⟩)) ?_;try simp only[ar,LT]
      refine aW 9 (U 58) (av (U ⟨g,4+n*29,ab⟩)) ?_;try simp only[ar,LT]
      refine aW 10 (U 59) (av (U ⟨g,4+n*29+11,ab⟩)) ?_;try simp only[ar,LT]
      refine aR 7 fun K A=>?_;go_simp;refine A _ _ ?_;clear A K;try simp only[ar,LT]
      refine aR 8 fun K A=>?_;go_simp;refine A _ _ ?_;clear A K;try simp only[ar,LT]
      refine aR 11 fun K A=>?_;go_simp;refine A _ _ ?_;clear A K;try simp only[ar,LT]
      refine aR 12 fun K A=>?_;go_simp;refine A _ _ ?_;clear A K;try simp only[ar,LT]
      refine wpAny_done (by kernel_rfl) ?_ _;go_wp2;go_round;case rel=>exact⟨i+1,_,by omega,by go_num,S,aa kC.out.2,HZ⟩
      case measure=>simp[intOf];omega
  .have jb:¬((i:Int)<(aC:Int)):=by omega
   have HZ:=aa (show jm n g5 s=s1.put n {s1.T n with phase:=5}by rw[HE.out,sD (by rw[<-HL.out];omega)];rfl);have HW5:=aa (HX.out.bI.sk n 5 u);have HF5:=aa (HX.out.fr.trans (Fr.set y wr (4+n*29) (I R 5)));have cp:=HX.out.bI.phase n u;have Cp:=HX.out.bI.b5 (4+n*29);clear am;go_wp2;go_end0;exact HG.out y _ _ J (by rw[HZ.out];exact HW5.out) HF5.out
def x9(v:Nat->VL)(j:Nat):ag:=if j%3=0 then ad (v (j/3)).bf else if j%3=1 then I aj (v (j/3)).ip else I R (v (j/3)).aB
theorem amn:VA 12 (x9 fun _=>dE)=#[ad ⟨#[]⟩,I aj 0,I R 0,ad ⟨#[]⟩,I aj 0,I R 0,ad ⟨#[]⟩,I aj 0,I R 0,ad ⟨#[]⟩,I aj 0,I R 0]:=by rw[yV];rfl
theorem Bx(bu g:Nat)(ty:TypeId):∀(l:List ag)(o:Nat)(f:Nat->ag)(W:ac),W.heap[g]?=U (.cells (VA bu f) ty (0,0))->W.setCells g o l=W.setRow g (VA bu (ga f o l))
 |[],o,f,W,h=>by rw[show ga f o []=f by funext i;unfold ga;rw[if_neg (by simp only[List.length_nil];omega)]];exact(setRow_self W g _ _ _ h).symm
 |x::r,o,f,W,h=>by
  rw[World.setCells,setCell_eq_setRow _ _ _ _ _ _ _ h,qu,Bx bu g ty r (o+1) (e0 f o x) _ (aV _ _ _ _ _ _ h),l' _ _ _ _ _ _ h];congr 2;funext i;unfold ga e0;by_cases q:i=o;.subst q;rw[if_neg (by omega),if_pos J,if_pos (by simp),zd];rfl
  .by_cases h2:o+1<=i/\i<o+1+r.length;.rw[if_pos h2,if_pos (by rw[fh];omega),show i-o=(i-(o+1))+1 by omega,List.getD_cons_succ]
   .rw[if_neg h2,if_neg q,if_neg (by rw[fh];omega)]
theorem aiP(v:Nat->VL)(i:Nat)(_hi:i<4)(x:VL):VA 12 (ga (x9 v) (i*3) (eo x).toList)=VA 12 (x9 (aO v i x)):=by
 refine Bz _ _ _ fun j hj=>?_;unfold ga;rw[show(eo x).toList.length=3 from J];by_cases L:i*3<=j/\j<i*3+3
 .rw[if_pos L];unfold x9;rcases show j=i*3\/j=i*3+1\/j=i*3+2 by omega with rfl|rfl|rfl;.rw[if_pos (by omega),show i*3/3=i by omega,dN,zd];rfl
  .rw[if_neg (by omega),if_pos (by omega),show(i*3+1)/3=i by omega,dN,show i*3+1-i*3=1 by omega];rfl
  .rw[if_neg (by omega),if_neg (by omega),show(i*3+2)/3=i by omega,dN,show i*3+2-i*3=2 by omega];rfl
 .rw[if_neg L];unfold x9;rw[ed _ _ (by omega)]
structure w5(g O:Nat)(P:PV)(s:WS)(y:ag)(oa:Option bl)(l:List Nat)(ka:Array ag)(r6 r7:Nat)(v:Nat->VL)(W X:ac):Prop where
 sx:SX g O P s y oa l ka r6 W X
 aG:X.heap[r7]?=U (.cells (VA 12 (x9 v)) 73 (0,0))
 cF:W.heap.size<=r7
 ne:r7≠r6
 nb:0<l.length->∀b off,oa=U ⟨b,off,ab⟩->r7≠b
theorem w5.au{g O:Nat}{P:PV}{s:WS}{y:ag}{oa:Option bl}{l:List Nat}{ka:Array ag}{r6 r7:Nat}{v:Nat->VL}{W X aK:ac}(h:w5 g O P s y oa l ka r6 r7 v W X)(hb:Below X.heap.size X aK):w5 g O P s y oa l ka r6 r7 v W aK:=⟨h.sx.au hb,(hb.block _ (bM.1 h.aG).1).trans h.aG,h.cF,h.ne,h.nb⟩
theorem w5.start{g O:Nat}{P:PV}{s:WS}{y:ag}{oa:Option bl}{l:List Nat}{ka:Array ag}{r6:Nat}{W X:ac}(h:SX g O P s y oa l ka r6 W X)(hb:0<l.length->∀b off,oa=U ⟨b,off,ab⟩->b<X.heap.size)(c:Array ag)(H:c=VA 12 (x9 fun _=>dE)):w5 g O P s y oa l ka r6 X.heap.size (fun _=>dE) W (X.alloc (.cells c 73)):=by subst H;exact⟨h.au (ai X _),a7 X _,h.fr.size,fun e=>by have:=(bM.1 h.box).1;omega,fun h0 b off e hb'=>by have:=hb h0 b off e;omega⟩
theorem w5.set{g O:Nat}{P:PV}{s:WS}{y:ag}{oa:Option bl}{l:List Nat}{ka:Array ag}{r6 r7:Nat}{v:Nat->VL}{W X:ac}(h:w5 g O P s y oa l ka r6 r7 v W X)(h0:WX g O P s y W)(i:Nat)(hi:i<4)(x:VL):w5 g O P s y oa l ka r6 r7 (aO v i x) W (X.setCells r7 (i*3) (eo x).toList):=by
 rw[Bx 12 r7 73 _ _ _ X h.aG,aiP v i hi x];have hg:=h0.gh;have hm:=h0.sR;have hb:=h.cF;have hl:y.ownBlock≠U r7:=fun e=>by have:=(h0.cW.lt _ e).2;omega
 have Ef:=Fg X r7 (VA 12 (x9 (aO v i x)));have ho:∀k,k≠r7->(X.setRow r7 (VA 12 (x9 (aO v i x)))).heap[k]?=X.heap[k]?:=fun k z=>ij X _ k _ z;refine⟨⟨h.sx.bI.GO Ef (by omega) (by omega) hl (Nat.le_trans h0.cF hb),?_,(ho _ (Ne.symm h.ne)).trans h.sx.box,h.sx.cF,below_setRow h.sx.fr hb _⟩,aV _ _ _ _ _ _ h.aG,hb,h.ne,h.nb⟩;refine⟨fun h0=>?_⟩;obtain⟨b,off,q,h2,h3,h4⟩:=h.sx.wa.ez h0;exact⟨b,off,q,h2,by rw[iz];exact h3,fun j al hj=>by rw[dt (ho b (Ne.symm (h.nb h0 b off q)))];exact h4 j al hj⟩
theorem aiK(x0 x1 x2 x3:VL):od ((1:Nat):Int) 0 oC ⟨x0,x1,x2,x3⟩ 0=#[I R 1,I R 0,I aj 0,I aj 0,I ah 0,I ah 0,I ah 0,I ah 0,ad x0.bf,I aj x0.ip,I R x0.aB,ad x1.bf,I aj x1.ip,I R x1.aB,ad x2.bf,I aj x2.ip,I R x2.aB,ad x3.bf,I aj x3.ip,I R x3.aB,I R 0]:=rfl
theorem amK{g O:Nat}{P:PV}{s:WS}{y:ag}{W:ac}(n:Nat)(u:n<3)(h8:8<(s.T n).call.nr)(h:WX g O P s y W)(cQ:s.aX.length<=1000000):ap Tryz.prog 147 #[av (U ⟨g,0,ab⟩),I R n] W (lu g O P (oX n s) y W):=by
 have j1:(0:Int)<=n:=by omega
 have j2:(n:Int)<3:=by omega
 have HI:=PO (s.T n).call W;rw[decide_eq_false (show¬(s.T n).call.nr<9 by omega)]at HI;unfold cR bX at HI;have x1:=h.th n 1 u (by omega);have x2:=h.th n 2 u (by omega);have x3:=h.th n 3 u (by omega);have x4:=h.th n 4 u (by omega);have x5:=h.th n 5 u (by omega);have x6:=h.th n 6 u (by omega);rw[(eP _).1]at x1;rw[(eP _).2.1]at x2;rw[(eP _).2.2.1]at x3;rw[(eP _).2.2.2.1]at x4;rw[(eP _).2.2.2.2.1]at x5;rw[(eP _).2.2.2.2.2]at x6;have HH:=aa h;have HZ:=aa (show oX n s=ec n 2 38 cb s by unfold oX;rw[if_pos h8]);clear h h8;go_enter func147,ntmps147;go_wp2_with fail;refine HI.mono ?_;rintro e Y⟨rfl,hY⟩;have HE:=SU n u 38 (HH.out.au hY) cQ;clear x1 x2 x3 x4 x5 x6;go_wp2_with fail;refine HE.mono ?_;rintro e w' hG;obtain⟨rfl,q⟩:=hG;go_wp2;go_end0;rw[HZ.out];exact lu.nF hY ⟨J,q⟩
set_option maxHeartbeats 4000000 in set_option maxRecDepth 20000 in theorem afu{g O:Nat}{P:PV}{s:WS}{y:ag}{W:ac}(n:Nat)(u:n<3)(b0:(s.T n).call.nr<=8)(fZ:∀i,(s.T n).args i<18446744073709551616)(Ao:∀x,s.mem.ei x<256)(h:WX g O P s y W)(cQ:s.aX.length<=1000000):ap Tryz.prog 147 #[av (U ⟨g,0,ab⟩),I R n] W (lu g O P (oX n s) y W):=by
 have j1:(0:Int)<=n:=by omega
 have j2:(n:Int)<3:=by omega
 have HI:=PO (s.T n).call W;rw[decide_eq_true (show(s.T n).call.nr<9 by omega)]at HI;have HP:=fun X=>TI (s.T n).call b0 X;unfold cR bX at HI HP;have x1:=h.th n 1 u (by omega);have x2:=h.th n 2 u (by omega);have x3:=h.th n 3 u (by omega);have x4:=h.th n 4 u (by omega);have x5:=h.th n 5 u (by omega);have x6:=h.th n 6 u (by omega);rw[(eP _).1]at x1;rw[(eP _).2.1]at x2;rw[(eP _).2.2.1]at x3;rw[(eP _).2.2.2.1]at x4;rw[(eP _).2.2.2.2.1]at x5;rw[(eP _).2.2.2.2.2]at x6;have iq:=aa (show oX n s=kp n s (bx (s.T n).call.nr) fun _=>dE by unfold oX;rw[if_neg (by omega)]);obtain⟨nr,Ck⟩:=af (s.T n).call.nr;have m8:=aa Ck;rw[<-Ck]at HI HP iq x2;obtain⟨ka,el⟩:=af (ra nr);have uf:ka.size=4:=by rw[el];rfl
 have zW:ka.all (·.oneCell')=true:=by rw[el];exact Sh _
 have ln:=aa el;simp only[<-el]at HP;obtain⟨g5,oN⟩:=af (bx nr);have qA:=aa oN;simp only[<-oN]at HP iq;obtain⟨aC,hL⟩:=af g5.length;have HL:=aa hL;have UU:aC<=2:=by rw[hL,oN];exact Gz _
 simp only[<-hL]at HP;have HH:=aa h;have rm:=aa fZ;have jh:=aa Ao;obtain⟨C9,hG⟩:=af (lu g O P (oX n s) y W);have HG:Hid (∀a8 e w',e= .returned (.tuple #[])->WX g O P (kp n s g5 fun _=>dE) a8 w'->Fr g O y a8 W w'->C9 e w'):=aa (fun a8 e w' q h2 h3=>by rw[hG];exact⟨q,a8,by rw[iq.out];exact h2,h3⟩);rw[<-hG];clear h el oN hL b0 Ck hG iq fZ Ao;go_enter func147,ntmps147;go_wp2_with fail;refine HI.mono ?_;rintro e Y0⟨rfl,s6⟩;have SJ:=aa (HH.out.au s6);have AC:=aa s6;replace x1:=ao s6 x1;replace x2:=ao s6 x2;replace x3:=ao s6 x3;replace x4:=ao s6 x4;replace x5:=ao s6 x5;replace x6:=ao s6 x6;clear s6 HI;go_wp2_with fail;refine(HP Y0).mono ?_;rintro e Y⟨⟨oa,cap,rfl,su,Q9,Ab⟩,hY⟩;have HS:=aa (SX.bk ka #[I R 0,I R 0,I R 0,I R 0] HH.out (Ab.cx AC.out.size) (ax AC.out hY));obtain⟨X,hX⟩:=af ((Y.alloc (.cells #[I R 0,I R 0,I R 0,I R 0] 185)).setRow Y.heap.size ka);rw[<-hX]at HS;have yc:0<aC->∀b off,oa=U ⟨b,off,ab⟩->b<X.heap.size:=fun h0 b off e=>by obtain⟨fL,xS,q,h2,h3,h4⟩:=HS.out.wa.ez (by rw[<-HL.out];exact h0);rw[q]at e;simp only[Option.some.injEq,Addr.mk.injEq]at e;omega
 have KK:Hid (0<g5.length->∀b off,oa=U ⟨b,off,ab⟩->b<X.heap.size):=aa (by rw[<-HL.out];exact yc);clear HP x1 x2 x3 x4 x5 x6 Ab yc;go_wp2_with(refine bK J 185 _ _ J Y.heap.size ka J J 185 _ (a7 Y _) (by rw[uf];exact KO) (by rw[uf];rfl) zW ?_;rw[<-hX];clear hX);have Tx:=aa (w5.start HS.out KK.out _ amn.symm);obtain⟨r6,lz⟩:=af Y.heap.size;obtain⟨r7,Q5⟩:=af X.heap.size;rw[<-lz,<-Q5]at Tx;rw[<-lz,<-Q5];clear lz Q5 hY uf zW HS KK AC SJ;go_loopw[36](fun aL w'=>∃(i:Nat)(v:Nat->VL),i<=aC/\aL=I R i/\Hid (w5 g O P s y oa g5 ka r6 r7 v W w')/\Hid (kp n s g5 (fun _=>dE)=kp n s (g5.drop i) v))(fun aL _=>aC-(intOf aL).toNat);case atStart=>exact⟨0,_,by omega,J,Tx,aa (by rw[FM])⟩
 case round=>
  obtain⟨i,v,hi,rfl,HX,HE⟩:=hrel;clear Tx;by_cases am:i<aC
  .obtain⟨bn,bE⟩:∃a,g5[i]?=U a:=⟨_,cq (by rw[<-HL.out];exact am)⟩;have lQ:=iy bE;obtain⟨_,mP,nn⟩:=sj (show bn∈bx nr by rw[<-qA.out];exact lQ);have IX:g5.drop i=bn::g5.drop (i+1):=by rw[N7 (by rw[<-HL.out];exact am)];congr 1;rw[cq (by rw[<-HL.out];exact am)]at bE;exact Option.some.inj bE
   rw[IX]at HE;obtain⟨b,off,rfl,ds,jS,ro⟩:=HX.out.sx.wa.ez (by rw[<-HL.out];omega);have y0:=ro i bn bE;obtain⟨k,z⟩:=af (a1 nr bn);obtain⟨aY,fZ⟩:=af ((s.T n).args bn);have y1:wr.cell? ⟨r6,bn,ab⟩=U (I R (k:Nat)):=by rw[aT _ _ _ _ _ _ HX.out.sx.box,ln.out,z];exact EW _ _ mP
   have y2:wr.cell? ⟨g,4+n*29+7+bn,ab⟩=U (I ah (aY:Nat)):=by rw[oy (4+n*29),HX.out.sx.bI.th n (7+bn) u (by omega),GX _ _ mP,fZ]
   have i1:(0:Int)<=i:=by omega
   have i2:(i:Int)<aC:=by omega
   have i3:(0:Int)<=bn:=by omega
   have i4:(bn:Int)<4:=by omega
   rw[<-z]at nn;have jN:aY<18446744073709551616:=by rw[fZ];exact rm.out bn
   have lx:=fun X(hX:WX g O P s y X)=>ams k aY nn jN jh.out hX;have Id:=aa (show kp n s g5 (fun _=>dE)=if(ti s.mem k aY).2=0 then kp n s (g5.drop (i+1)) (aO v bn (ti s.mem k aY).1)else ec n 2 (qt (ti s.mem k aY).2:Nat) cb s by
    rw[HE.out];conv=>lhs;rw[kp]
    rw[<-m8.out,<-z,<-fZ,am8 _ _ _ nn];by_cases h0:(ti s.mem k aY).2=0;.rw[if_pos h0,if_pos h0]
    .rw[if_neg h0,if_neg h0]);obtain⟨⟨⟨bf,ip,aB⟩,f⟩,DP⟩:=af (ti s.mem k aY);simp only[<-DP]at lx Id;unfold eo at lx;simp only at lx;obtain⟨er,gc⟩:=af (cj f);simp only[<-gc]at lx;have EP:=aa gc;have c4:=lx wr.drew (HX.out.sx.bI.au (Below.refl _ _).drew);have ps:=lx (wr.alloc (.cells #[ad ⟨#[]⟩,I aj 0,I R 0] 71)).drew ((HX.out.sx.bI.au (ai wr _)).au (Below.refl _ _).drew);have BL:g≠wr.heap.size:=xo HX.out.sx.bI.gh;have ON:r6≠wr.heap.size:=xo (bM.1 HX.out.sx.box).1;have zb:(wr.alloc (.cells #[ad ⟨#[]⟩,I aj 0,I R 0] 71)).drew.heap[wr.heap.size]?=U (.cells #[ad ⟨#[]⟩,I aj 0,I R 0] 71 (0,0)):=a7 wr _;have x1:=ao (ai wr (.cells #[ad ⟨#[]⟩,I aj 0,I R 0] 71)) y1;have x2:=ao (ai wr (.cells #[ad ⟨#[]⟩,I aj 0,I R 0] 71)) y2;replace y1:wr.drew.cell? _=_:=y1;replace y2:wr.drew.cell? _=_:=y2;replace x1:(wr.alloc (.cells #[ad ⟨#[]⟩,I aj 0,I R 0] 71)).drew.cell? _=_:=x1;replace x2:(wr.alloc (.cells #[ad ⟨#[]⟩,I aj 0,I R 0] 71)).drew.cell? _=_:=x2;clear ro bE lQ IX z fZ DP gc lx jN nn;go_wp2_with fail;go_cut[10,11]from 37 to 63(fun eG BB w2=>BB=er/\∃nC:Nat,eG=av (U ⟨nC,0,ab⟩)/\Hid (Below wr.heap.size wr w2)/\Hid (w2.heap[nC]?=U (.cells #[ad bf,I aj ip,I R aB] 71 (0,0))));case first=>as_aux_lemma=>go_region_held3(fun w'=>w'.cell? ⟨r6,bn,ab⟩=U (I R (k:Nat))/\w'.cell? ⟨g,4+n*29+7+bn,ab⟩=U (I ah (aY:Nat)))(first|(with_reducible exact⟨y1,y2⟩)|(with_reducible exact⟨x1,x2⟩)|(with_reducible exact⟨r1,r2⟩)|(with_reducible exact⟨ao (ai wr.drew _) y1,ao (ai wr.drew _) y2⟩)|(with_reducible exact⟨ao (ai Y2 _) r1,ao (ai Y2 _) r2⟩)|(with_reducible exact⟨fB ON r1,fB BL r2⟩)|go_keep)((first|(go_at_call 194;with_reducible refine c4.mono ?_;rintro e Y2⟨rfl,ku⟩;have S:=aa (ax (Below.refl _ wr).drew ku);have r1:=ao ku y1;have r2:=ao ku y2;clear ku)|(go_at_call 194;refine ps.mono ?_;rintro e Y2⟨rfl,ku⟩;have S:=aa (ax (ai wr (.cells #[ad ⟨#[]⟩,I aj 0,I R 0] 71)).drew ku);have r1:=ao ku x1;have r2:=ao ku x2;have uh:=(ku.block wr.heap.size (by show _<(wr.alloc _).heap.size;rw[World.size_alloc];exact Nat.lt_succ_self _)).trans zb;obtain⟨⟨p0,p1,p2⟩,g0,g1,g2⟩:=Z9 uh;clear ku)));all_goals go_wp2_with fail;go_meet;case rel=>first|with_reducible exact⟨J,Y2.heap.size,J,aa (ax S.out (ai _ _)),aa (a7 _ _)⟩|exact⟨J,wr.heap.size,J,aa (by rw[MZ uh];exact below_setRow S.out (Nat.le_refl _) _),aa (by rw[MZ uh];exact aV _ _ _ _ _ _ uh)⟩
   case rest=>
    obtain⟨rfl,nC,rfl,df,qg⟩:=hcut;clear y0 y1 y2 x1 x2 zb c4 ps;have gv:=aa (HX.out.au df.out);by_cases dn:f=0
    .rw[if_pos dn]at Id;have hu:=EP.out;rw[dn,kD]at hu;subst hu;have r0:wc.cell? ⟨nC,0,ab⟩=U (ad bf):=aT _ _ 0 _ _ _ qg.out;have r1:wc.cell? ⟨nC,1,ab⟩=U (I aj ip):=aT _ _ 1 _ _ _ qg.out;have r2:wc.cell? ⟨nC,2,ab⟩=U (I R aB):=aT _ _ 2 _ _ _ qg.out;have zE:=aa (gv.out.set HH.out bn mP ⟨bf,ip,aB⟩);unfold eo at zE;simp only at zE;clear dn;go_wp2_with(refine wpList_store_mid (P:=Tryz.prog) J 71 _ _ J r7 (bn*3) #[ad bf,I aj ip,I R aB] (by go_simp) J (by intro j hj;exact⟨by rw[aT _ _ _ _ _ _ gv.out.aG,km _ _ _ (by have h3:j<3:=hj;omega)];rfl,frozen_of_row _ _ _ _ _ gv.out.aG⟩) wU (by simp[Value.oneCell']) ?_);go_round;case rel=>exact⟨i+1,_,by omega,by go_num,zE,Id⟩
     case measure=>simp[intOf];omega
    .rw[if_neg dn]at Id;have hu:=EP.out;rw[iL dn]at hu;subst hu;have OS:=Mj n u f gv.out.sx.bI cQ;clear dn;go_wp2_with fail;refine OS.mono ?_;rintro e w' P';obtain⟨rfl,a8,q,h2⟩:=P';go_wp2;go_end0;exact HG.out a8 _ _ J (by rw[Id.out];exact q) ((Fr.bk y gv.out.sx.fr).trans h2)
  .have jb:¬((i:Int)<(aC:Int)):=by omega
   have HZ:=aa (show kp n s g5 (fun _=>dE)=ec n 1 0 (eY v) s by rw[HE.out,sD (by rw[<-HL.out];omega)];rfl);have j3:=RU n u 1 0 (eY v) HX.out.sx.bI cQ;have hv:=fun j(hj:j<12)=>(aT _ _ j _ _ _ HX.out.aG).trans (km _ _ _ hj);have v0:wr.cell? ⟨r7,0,ab⟩=U (ad (v 0).bf):=hv 0 (by omega);have v1:wr.cell? ⟨r7,1,ab⟩=U (I aj (v 0).ip):=hv 1 (by omega);have v2:wr.cell? ⟨r7,2,ab⟩=U (I R (v 0).aB):=hv 2 (by omega);have v3:wr.cell? ⟨r7,3,ab⟩=U (ad (v 1).bf):=hv 3 (by omega);have v4:wr.cell? ⟨r7,4,ab⟩=U (I aj (v 1).ip):=hv 4 (by omega);have v5:wr.cell? ⟨r7,5,ab⟩=U (I R (v 1).aB):=hv 5 (by omega);have v6:wr.cell? ⟨r7,6,ab⟩=U (ad (v 2).bf):=hv 6 (by omega);have v7:wr.cell? ⟨r7,7,ab⟩=U (I aj (v 2).ip):=hv 7 (by omega);have v8:wr.cell? ⟨r7,8,ab⟩=U (I R (v 2).aB):=hv 8 (by omega);have v9:wr.cell? ⟨r7,9,ab⟩=U (ad (v 3).bf):=hv 9 (by omega);have uH:wr.cell? ⟨r7,10,ab⟩=U (I aj (v 3).ip):=hv 10 (by omega);have un:wr.cell? ⟨r7,11,ab⟩=U (I R (v 3).aB):=hv 11 (by omega);unfold eY at j3;rw[aiK]at j3;clear am hv;go_wp2_with fail;refine j3.mono ?_;rintro e w'⟨rfl,a8,q,h2⟩;go_wp2;go_end0;exact HG.out a8 _ _ J (by rw[HZ.out];exact q) ((Fr.bk y HX.out.sx.fr).trans h2)
theorem aip{g O:Nat}{P:PV}{s:WS}{y:ag}{W:ac}(n:Nat)(u:n<3)(hi:dT P.p s)(_hph:(s.T n).phase=5)(h:WX g O P s y W)(cQ:s.aX.length<=1000000):ap Tryz.prog 147 #[av (U ⟨g,0,ab⟩),I R n] W (lu g O P (oX n s) y W):=by
 by_cases h8:8<(s.T n).call.nr;.exact amK n u h8 h cQ
 .exact afu n u (by omega) (hi.cg n u).aY hi.mem.uX.bytes h cQ
end Go.Proofs.YtefdakbahplnbaaGreatDoor
