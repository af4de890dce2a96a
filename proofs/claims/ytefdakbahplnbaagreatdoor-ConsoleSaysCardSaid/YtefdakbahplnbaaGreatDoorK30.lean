/- snap. -/
import Derived.Test.YtefdakbahplnbaaGreatDoorK26
open Go.Proofs.Tryz
open And renaming intro->bQ
open Go renaming below_drewN->xp,cell_of_row->aT,heap_alloc_new->a7,wpAny_done->dH,wp_region_any->mj
open Go.Act renaming put->ar
open Go.Calls renaming quiet_of_same->pc
open Go.IntKind renaming i64->R,u32->aj,u8->aM,wrap->AX,wrap_u64->jQ
open Go.RowKit.Below renaming refl->aS
open Go.Value renaming int->I,pointer->av,string->ad
open Option renaming elim->T4,none->ab,some->U
open UInt8 renaming ofNat->bB
namespace Go.Proofs.YtefdakbahplnbaaGreatDoor
open Go.RowKit Mm
set_option maxHeartbeats 2000000 in set_option maxRecDepth 20000 in theorem amq{g O:Nat}{P:PV}{s:WS}{y:Value}{W:World}(n:Nat)(u:n<3)(hi:dT P.p s)(bv:(s.T n).phase=2)(h:WX g O P s y W)(cQ:s.aX.length<=1000000):Calls Tryz.prog 144 #[av (U ⟨g,0,ab⟩),I R n] W (lu g O P (so n s) y W):=by
 have j1:(0:Int)<=n:=by omega
 have j2:(n:Int)<3:=by omega
 have ht:=hi.cg n u;have b0:=ht.zh (by omega) (by omega);obtain⟨jr,hf⟩:=ht.GN bv;have Ao:=hi.mem.uX.bytes;have HP:=TI (s.T n).call b0 W;unfold cR bX at HP;have x1:=h.th n 1 u (by omega);have x2:=h.th n 2 u (by omega);have x3:=h.th n 3 u (by omega);have x4:=h.th n 4 u (by omega);have x5:=h.th n 5 u (by omega);have x6:=h.th n 6 u (by omega);rw[(eP _).1]at x1;rw[(eP _).2.1]at x2;rw[(eP _).2.2.1]at x3;rw[(eP _).2.2.2.1]at x4;rw[(eP _).2.2.2.2.1]at x5;rw[(eP _).2.2.2.2.2]at x6;obtain⟨ka,el⟩:=af (ra (s.T n).call.nr);have uf:ka.size=4:=by rw[el];rfl
 have zW:ka.all (·.oneCell')=true:=by rw[el];exact Sh _
 have ln:=aa el;rw[<-el]at HP;obtain⟨g5,oN⟩:=af (bx (s.T n).call.nr);rw[<-oN]at HP jr;obtain⟨aC,hL⟩:=af g5.length;rw[<-hL]at HP jr;have HH:=aa h;have HT:=aa ht;have HI:=aa hi;have ni:=aa hf;clear h ht hi hf el;go_enter func144,ntmps144;go_wp2_with fail;refine HP.mono ?_;rintro e Y⟨⟨oa,cap,rfl,su,Q9,Ab⟩,hY⟩;have HS:=aa (SX.bk ka #[I R 0,I R 0,I R 0,I R 0] HH.out Ab hY);obtain⟨X,hX⟩:=af ((Y.alloc (.cells #[I R 0,I R 0,I R 0,I R 0] 185)).setRow Y.heap.size ka);rw[<-hX]at HS;obtain⟨r6,lz⟩:=af Y.heap.size;obtain⟨se,us⟩:=af (s.T n).cU;obtain⟨bn,bE⟩:=af (dP (s.T n));obtain⟨aY,fZ⟩:=af ((s.T n).args bn);obtain⟨rd,Ok⟩:=af (s.T n).dd;obtain⟨B,N⟩:=af (bs rd);rw[<-us]at jr;have jR:g5[se]?=U bn:=by rw[bE,oN,us];unfold dP;rw[List.getD_eq_getElem?_getD,List.getElem?_eq_getElem (by rw[<-us,<-oN,<-hL];exact jr)];rfl
 have lQ:=List.mem_of_getElem? jR;rw[oN]at lQ;obtain⟨_,mP,nn⟩:=sj lQ;obtain⟨b,off,rfl,ds,jS,ro⟩:=HS.out.wa.ez (by omega);have y0:=ro se bn jR;have y1:X.cell? ⟨g,4+n*29+15,ab⟩=U (I R se):=by rw[us];exact HS.out.bI.th n 15 u (by omega)
 have y2:=HS.out.bI.ptr;have y3:X.cell? ⟨g,4+n*29+7+bn,ab⟩=U (I .u64 aY):=by rw[Nat.add_assoc (4+n*29),HS.out.bI.th n (7+bn) u (by omega),GX _ _ mP,fZ]
 have y4:X.cell? ⟨g,4+n*29+16,ab⟩=U (ad B):=by rw[N,Ok];exact HS.out.bI.th n 16 u (by omega)
 have i1:(0:Int)<=se:=by omega
 have i2:(se:Int)<aC:=by omega
 have i3:(0:Int)<=bn:=by omega
 have i4:(bn:Int)<4:=by omega
 have k4:=aa (bQ oN (bQ hL (bQ us (bQ bE (bQ fZ (bQ Ok N))))));clear HP x1 x2 x3 x4 x5 x6 ro Ab oN hL us bE fZ Ok N jR lQ;go_wp2_with(refine wpList_store_row J 185 _ _ J Y.heap.size ka J J 185 _ (a7 Y _) (by rw[uf];exact KO) (by rw[uf];rfl) zW ?_;rw[<-hX];clear hX);have HM:=aa HS.out.bI.mem;have sh:AX .u64 ((aY:Int)+AX .u64 (B.size:Int))=((ch aY rd.length:Nat):Int):=by
  rw[k4.out.2.2.2.2.2.2,ct];unfold ch;have hl:rd.length<=40:=by
   have:=ni.out;unfold A7 at this;rw[<-k4.out.2.2.2.2.2.1]at this;by_cases h3:a1 (s.T n).call.nr (dP (s.T n))=3;.have:=this.1 h3;omega
   .exact(this.2 h3).1
  rw[jQ,jQ];omega
 obtain⟨pk,dm⟩:=af (ey s.mem (ch aY rd.length));have S:=fun m=>Ql (W:=X.drewN m) HM.out (ch aY rd.length) (Nat.mod_lt _ (by decide));rw[<-dm]at S;obtain⟨o7,gq⟩:∃x:Nat,x=ch aY rd.length:=⟨_,J⟩;rw[<-gq]at S sh dm;have mo:=aa (bQ gq dm);clear gq dm;have dx:=aa (show so n s=pk.elim (ec n 2 14 cb s) (fun b=>wA n (rd++[bB b]) s)by unfold so;rw[mo.out.2,mo.out.1,k4.out.2.2.2.2.1,k4.out.2.2.2.1,k4.out.2.2.2.2.2.1];unfold ch;cases ey s.mem (((s.T n).args (dP (s.T n))+(s.T n).dd.length)%18446744073709551616)<;>rfl);obtain⟨r6,lz⟩:=af Y.heap.size;rw[<-lz]at HS;rw[<-lz];clear lz;cases pk with
  |none=>as_aux_lemma=>unfold Ai at S;simp only[T4]at S dx;go_quiet((go_at_call 186;exact pc (S _)));obtain⟨aK,hZ⟩:=af (X.drewN nq);have HZ:=aa (HS.out.au (by rw[hZ];exact xp (aS _ _) _):SX g O P s y _ g5 ka r6 W aK);rw[<-hZ];clear hZ S HS y0 y1 y2 y3 y4;have HE:=Mj n u 5 HZ.out.bI cQ;go_wp2_with fail;refine HE.mono ?_;rintro e w' hG;obtain⟨rfl,q⟩:=hG;go_wp2;go_end0;rw[dx.out];exact lu.nF HZ.out.fr ⟨J,q⟩
  |some fx=>
   unfold Ai at S;simp only[T4]at S dx;go_quiet((go_at_call 186;exact pc (S _)));obtain⟨aK,hZ⟩:=af (X.drewN nq);have HZ:=aa (HS.out.au (by rw[hZ];exact xp (aS _ _) _):SX g O P s y _ g5 ka r6 W aK);rw[<-hZ];have z4:aK.drew.cell? ⟨g,4+n*29+16,ab⟩=U (ad B):=by rw[hZ];exact y4
   have f4:aK.drew.frozen? ⟨g,4+n*29+16,ab⟩=false:=HZ.out.bI.b5 _;have z5:=ao (ai aK.drew (.cells #[I aM (fx:Nat)] 5)) z4;have f5:(aK.alloc (.cells #[I aM (fx:Nat)] 5)).drew.frozen? ⟨g,4+n*29+16,ab⟩=false:=(HZ.out.bI.au (ai aK (.cells #[I aM (fx:Nat)] 5))).b5 _;replace z5:(aK.alloc (.cells #[I aM (fx:Nat)] 5)).drew.cell? _=_:=z5;have My:fx<256:=by
    have q:=mo.out.2;unfold ey at q;split at q;.rw[Option.some.inj q];exact Ao _
    .cases q
   have j0:=Mr (aK.alloc (.cells #[I aM (fx:Nat)] 5)).drew aK.heap.size fx My (aT _ _ 0 _ _ _ (a7 aK _));obtain⟨dZ,nR⟩:=af (bs [bB fx]);rw[<-nR]at j0;have fF:¬9223372036854775807<B.size+dZ.size:=by
    rw[nR,ct,k4.out.2.2.2.2.2.2,ct];simp only[List.length_singleton];have:=ni.out;unfold A7 at this;rw[<-k4.out.2.2.2.2.2.1]at this;by_cases h3:a1 (s.T n).call.nr (dP (s.T n))=3;.have:=this.1 h3;omega
    .have:=(this.2 h3).1;omega
   have Dk:=aa (show bs (rd++[bB fx])=B++dZ by rw[nR,k4.out.2.2.2.2.2.2,b7]);have Ni:=aa ((HZ.out.au (ai aK (.cells #[I aM (fx:Nat)] 5))).fr' HH.out (((HZ.out.bI.au (ai aK (.cells #[I aM (fx:Nat)] 5))).au (aS _ _).drew).wg n 16 u (by omega) (ad (B++dZ)) {s.T n with dd:=rd++[bB fx]} (fun k z=>by rw[YU _ _ k,Dk.out])) ((Fr.bk y (aS _ _).drew).trans (Fr.set y _ _ _)));have HCB:=aa nR;clear nR;clear hZ S HS y0 y1 y2 y3 y4 HM;go_wp2_with fail;go_cut[8](fun eG wc=>eG=I aM fx/\Hid (WX g O P (s.put n {s.T n with dd:=rd++[bB fx]}) y wc/\oU W.heap.size (U ⟨b,off,ab⟩) g5 wc/\wc.heap[r6]?=U (.cells ka 185 (0,0))/\Fr g O y y W wc));case first=>
    as_aux_lemma=>
     refine mj (by kernel_rfl) ?_;change wpAny _ _ _ _ _ _ _ (World.drew _);refine aW 0 (U 58) (av (U ⟨g,4+n*29,ab⟩)) ?_;try simp only[ar,LT]
     refine aW 1 (U 59) (av (U ⟨g,4+n*29,ab⟩)) ?_;try simp only[ar,LT]
     refine aW 2 (U 60) (av (U ⟨g,4+n*29+16,ab⟩)) ?_;try simp only[ar,LT]
     refine aW 4 (U 62) (I aM fx) ?_;try simp only[ar,LT]
     refine iV (i:=3) (j:=5) (by kernel_rfl) J J J J (fun K A=>?_) (fun K A=>?_)
     .go_simp;refine A _ _ ?_;clear A K;try simp only[ar,LT]
      refine aR 5 fun K A=>?_;go_simp;refine A _ _ ?_;clear A K;try simp only[ar,LT]
      refine aR 6 fun K A=>?_;go_simp;refine A _ _ ?_;clear A K;try simp only[ar,LT]
      refine aR 7 fun K A=>?_;go_simp;refine A _ _ ?_;clear A K;try simp only[ar,LT]
      refine aW 8 (U 66) (av (U ⟨g,4+n*29,ab⟩)) ?_;try simp only[ar,LT]
      refine aW 9 (U 67) (av (U ⟨g,4+n*29+16,ab⟩)) ?_;try simp only[ar,LT]
      refine aR 10 fun K A=>?_;go_simp;refine A _ _ ?_;clear A K;try simp only[ar,LT]
      refine dH (by kernel_rfl) ?_ _;go_wp2_with fail;go_meet;case rel=>exact⟨J,Ni⟩
     .go_simp;refine A _ _ ?_;clear A K;try simp only[ar,LT]
      refine iV (i:=3) (j:=6) (by kernel_rfl) J J J J (fun K A=>?_) (fun K A=>?_)
      .go_simp;refine A _ _ ?_;clear A K;try simp only[ar,LT]
       refine aR 6 fun K A=>?_;go_simp;refine A _ _ ?_;clear A K;try simp only[ar,LT]
       refine aR 7 fun K A=>?_;go_simp;refine A _ _ ?_;clear A K;try simp only[ar,LT]
       refine aW 8 (U 66) (av (U ⟨g,4+n*29,ab⟩)) ?_;try simp only[ar,LT]
       refine aW 9 (U 67) (av (U ⟨g,4+n*29+16,ab⟩)) ?_;try simp only[ar,LT]
       refine aR 10 fun K A=>?_;go_simp;refine A _ _ ?_;clear A K;try simp only[ar,LT]
       refine dH (by kernel_rfl) ?_ _;go_wp2_with fail;go_meet;case rel=>exact⟨J,Ni⟩
      .go_simp;refine A _ _ ?_;clear A K;try simp only[ar,LT]
       refine aR 3 fun K A=>?_;go_simp;refine A _ _ ?_;clear A K;try simp only[ar,LT]
       refine aR 7 fun K A=>?_;go_simp;refine A _ _ ?_;clear A K;try simp only[ar,LT]
       refine aW 8 (U 66) (av (U ⟨g,4+n*29,ab⟩)) ?_;try simp only[ar,LT]
       refine aW 9 (U 67) (av (U ⟨g,4+n*29+16,ab⟩)) ?_;try simp only[ar,LT]
       refine aR 10 fun K A=>?_;go_simp;refine A _ _ ?_;clear A K;try simp only[ar,LT]
       refine dH (by kernel_rfl) ?_ _;go_wp2_with fail;go_meet;case rel=>exact⟨J,Ni⟩
   case rest=>
    as_aux_lemma=>
     obtain⟨rfl,G⟩:=hcut;clear z4 z5 f4 f5 j0 fF Ni HZ;obtain⟨l1,m7⟩:=af (rd++[bB fx]);rw[<-m7]at G dx;have cY:l1.length<=9000:=by
      rw[m7,List.length_append,List.length_singleton];have:=ni.out;unfold A7 at this;rw[<-k4.out.2.2.2.2.2.1]at this;by_cases h3:a1 (s.T n).call.nr (dP (s.T n))=3;.have:=this.1 h3;omega
      .have:=(this.2 h3).1;omega
     obtain⟨k,z⟩:=af (a1 (s.T n).call.nr bn);rw[<-z]at nn;have y0:wc.cell? ⟨r6,bn,ab⟩=U (I R (k:Nat)):=by rw[aT _ _ _ _ _ _ G.out.2.2.1,ln.out,z];exact EW _ _ mP
     obtain⟨q1,pw⟩:=af (bs l1);have y1:wc.cell? ⟨g,4+n*29+16,ab⟩=U (ad q1):=by rw[G.out.1.th n 16 u (by omega),jp,pw];rfl
     have G9:=fun X=>aiO k l1 cY X;have rJ:=fun X=>UQ k nn l1 cY X;rw[<-pw]at G9 rJ;have lV:=aa (show so n s=if nc k l1=true then(match mG k l1 with|ab=>ec n 2 (ED k:Nat) cb s|U v=>s.put n {s.T n with aG:=aO (s.T n).aG bn v,dd:=[],cU:=se+1,phase:=if se+1=aC then 3 else 2})else s.put n {s.T n with dd:=l1}by rw[dx.out];unfold wA;simp only;rw[<-k4.out.2.2.2.1,<-z,<-k4.out.2.2.1,<-k4.out.1,<-k4.out.2.1];rfl);obtain⟨U4,RQ⟩:=af (nc k l1);rw[<-RQ]at lV;simp only[<-RQ]at G9;have HK:=aa z;have EA:=aa pw;clear m7 pw z RQ dx cY;cases U4 with
      |false=>as_aux_lemma=>rw[if_neg Bool.false_ne_true]at lV;go_wp2_with fail;go_quiet((go_at_call 188;exact pc (G9 _)));go_wp2;go_end0;rw[lV.out];exact⟨J,y,G.out.1.au (xp (aS _ _) _),G.out.2.2.2.trans (Fr.bk y (xp (aS _ _) _))⟩
      |true=>
       rw[if_pos J]at lV;go_wp2_with fail;go_quiet((go_at_call 188;exact pc (G9 _)));obtain⟨aK,hZ⟩:=af (wc.drewN nq);have HD:=aa (show Below wc.heap.size wc aK by rw[hZ];exact xp (aS _ _) _);replace y0:=ao HD.out y0;replace y1:=ao HD.out y1;rw[<-hZ];obtain⟨⟨⟨bf,ip,aB⟩,f⟩,DP⟩:=af (p5 k l1);simp only[<-DP]at rJ;unfold eo at rJ;simp only at rJ;obtain⟨er,gc⟩:=af (cj f);simp only[<-gc]at rJ;have EP:=aa gc;have HVR:=aa DP;have BL:g≠aK.heap.size:=Nat.ne_of_lt (G.out.1.au HD.out).gh;have ON:r6≠aK.heap.size:=Nat.ne_of_lt (Nat.lt_of_lt_of_le (Array.getElem?_eq_some_iff.1 G.out.2.2.1).1 HD.out.size);have zb:(aK.alloc (.cells #[ad ⟨#[]⟩,I aj 0,I R 0] 71)).drew.heap[aK.heap.size]?=U (.cells #[ad ⟨#[]⟩,I aj 0,I R 0] 71 (0,0)):=a7 aK _;have x0:=ao (ai aK (.cells #[ad ⟨#[]⟩,I aj 0,I R 0] 71)) y0;have x1:=ao (ai aK (.cells #[ad ⟨#[]⟩,I aj 0,I R 0] 71)) y1;replace y0:aK.drew.cell? _=_:=y0;replace y1:aK.drew.cell? _=_:=y1;replace x0:(aK.alloc (.cells #[ad ⟨#[]⟩,I aj 0,I R 0] 71)).drew.cell? _=_:=x0;replace x1:(aK.alloc (.cells #[ad ⟨#[]⟩,I aj 0,I R 0] 71)).drew.cell? _=_:=x1;clear hZ DP gc G9;go_wp2_with fail;go_cut[9,10](fun BB eG w2=>BB=er/\∃nC:Nat,eG=av (U ⟨nC,0,ab⟩)/\Hid (Below aK.heap.size aK w2)/\Hid (w2.heap[nC]?=U (.cells #[ad bf,I aj ip,I R aB] 71 (0,0))));case first=>as_aux_lemma=>go_region_held3(fun w'=>w'.cell? ⟨r6,bn,ab⟩=U (I R (k:Nat))/\w'.cell? ⟨g,4+n*29+16,ab⟩=U (ad q1))(first|(with_reducible exact⟨y0,y1⟩)|(with_reducible exact⟨x0,x1⟩)|(with_reducible exact⟨r0,r1⟩)|(with_reducible exact⟨ao (ai aK.drew _) y0,ao (ai aK.drew _) y1⟩)|(with_reducible exact⟨ao (ai Y _) r0,ao (ai Y _) r1⟩)|(with_reducible exact⟨fB ON r0,fB BL r1⟩)|go_keep)((first|(go_at_call 189;with_reducible refine(rJ aK.drew).mono ?_;rintro e Y⟨rfl,hY⟩;have S:=aa (ax (aS _ aK).drew hY);have r0:=ao hY y0;have r1:=ao hY y1;clear hY)|(go_at_call 189;refine(rJ (aK.alloc (.cells #[ad ⟨#[]⟩,I aj 0,I R 0] 71)).drew).mono ?_;rintro e Y⟨rfl,hY⟩;have S:=aa (ax (ai aK (.cells #[ad ⟨#[]⟩,I aj 0,I R 0] 71)).drew hY);have r0:=ao hY x0;have r1:=ao hY x1;have uh:=(hY.block aK.heap.size (by show _<(aK.alloc _).heap.size;rw[World.size_alloc];exact Nat.lt_succ_self _)).trans zb;obtain⟨⟨p0,p1,p2⟩,g0,g1,g2⟩:=Z9 uh;clear hY)));all_goals go_wp2_with fail;go_meet;case rel=>first|with_reducible exact⟨J,Y.heap.size,J,aa (ax S.out (ai _ _)),aa (a7 _ _)⟩|exact⟨J,aK.heap.size,J,aa (by rw[MZ uh];exact below_setRow S.out (Nat.le_refl _) _),aa (by rw[MZ uh];exact setRow_heap _ _ _ _ _ _ uh)⟩
       case rest=>
        as_aux_lemma=>
         obtain⟨rfl,nC,rfl,df,qg⟩:=hcut;have gv:=aa ((G.out.1.au HD.out).au df.out);have ps:=aa ((G.out.2.2.2.trans (Fr.bk y HD.out)).trans (Fr.bk y df.out));clear y0 y1 x0 x1 zb rJ;have p9:=HVR.out;unfold p5 at p9;cases mN:mG k l1 with
          |none=>
           as_aux_lemma=>
            rw[mN]at p9 lV;simp only[Prod.mk.injEq]at p9 lV;have dn:f≠0:=by rw[p9.2];split<;>omega
            have hfe:qt f=ED k:=by
             rw[p9.2];unfold ED;by_cases h3:k=3;.rw[if_pos h3,if_pos h3];rfl
             .rw[if_neg h3,if_neg h3];rfl
            have HE:=Mj n u f gv.out cQ;rw[hfe,agX (t:={s.T n with dd:=l1}) 2 _ cb J J J]at HE;have hu:=EP.out;rw[iL dn]at hu;subst hu;clear p9 mN;go_wp2_with fail;refine HE.mono ?_;rintro e w' hG;obtain⟨rfl,a8,q,h2⟩:=hG;go_wp2;go_end0;rw[lV.out];exact⟨J,a8,q,ps.out.trans h2⟩
          |some vv=>
           as_aux_lemma=>
            rw[mN]at p9 lV;simp only[Prod.mk.injEq]at p9 lV;obtain⟨eE,dn⟩:=p9;have hu:=EP.out;rw[dn,kD]at hu;subst hu;have KT:=aa (gv.out.au (aS _ _).drew);have r0:wc.drew.cell? ⟨nC,0,ab⟩=U (ad bf):=aT _ _ 0 _ _ _ qg.out;have r1:wc.drew.cell? ⟨nC,1,ab⟩=U (I aj ip):=aT _ _ 1 _ _ _ qg.out;have r2:wc.drew.cell? ⟨nC,2,ab⟩=U (I R aB):=aT _ _ 2 _ _ _ qg.out;obtain⟨V,hV⟩:=af (wc.drew.setCells g (4+n*29+17+bn*3) (#[ad bf,I aj ip,I R aB]:Array Value).toList);have HV:=aa (show WX g O P (s.put n {s.T n with dd:=l1,aG:=aO (s.T n).aG bn ⟨bf,ip,aB⟩}) y V by rw[hV];exact KT.out.aim bn u mP ⟨bf,ip,aB⟩);have lx:=aa (show Fr g O y y W V by rw[hV];exact(ps.out.trans (Fr.bk y (aS _ _).drew)).trans (Fr.cells y _ _ _));clear mN dn;go_wp2_with fail;refine mj (by kernel_rfl) ?_;change wpAny _ _ _ _ _ _ _ (World.drew _);refine aW 0 (U 94) (av (U ⟨g,4+n*29,ab⟩)) ?_;try simp only[ar,LT]
            refine aW 1 (U 95) (I R (bn:Nat)) ?_;try simp only[ar,LT]
            refine aW 3 (U 97) (av (U ⟨g,4+n*29,ab⟩)) ?_;try simp only[ar,LT]
            refine aW 4 (U 98) (av (U ⟨g,4+n*29+17,ab⟩)) ?_;try simp only[ar,LT]
            refine aR 2 fun K A=>?_;go_simp;refine A _ _ ?_;clear A K;try simp only[ar,LT]
            refine aR 5 fun K A=>?_;go_simp;refine A _ _ ?_;clear A K;try simp only[ar,LT]
            refine aR 6 fun K A=>?_;refine wp_store_mid (P:=Tryz.prog) 71 _ _ J g (4+n*29+17+bn*3) #[ad bf,I aj ip,I R aB] J J (by intro j hj;exact⟨by rw[KT.out.cell _ (by have h3:j<3:=hj;omega)];rfl,KT.out.b5 _⟩) wU (by simp[Value.oneCell']) ?_;refine A _ _ ?_;clear A K;try simp only[ar]
            refine dH (by kernel_rfl) ?_ _;rw[<-hV];clear hV r0 r1 r2;have v16:V.cell? ⟨g,4+n*29+16,ab⟩=U (ad q1):=by rw[HV.out.th n 16 u (by omega),jp,EA.out];rfl
            have f16:V.frozen? ⟨g,4+n*29+16,ab⟩=false:=HV.out.b5 _;have dJ:=aa (HV.out.EG 16 u (by omega) (ad ⟨#[]⟩) {s.T n with dd:=[],aG:=aO (s.T n).aG bn ⟨bf,ip,aB⟩} (fun k=>by rw[show({s.T n with dd:=[],aG:=aO (s.T n).aG bn ⟨bf,ip,aB⟩}:TH)={({s.T n with dd:=l1,aG:=aO (s.T n).aG bn ⟨bf,ip,aB⟩}:TH)with dd:=[]}from J,YU];rfl));have v15:(V.setCell ⟨g,4+n*29+16,ab⟩ (ad ⟨#[]⟩)).cell? ⟨g,4+n*29+15,ab⟩=U (I R (se:Nat)):=by rw[dJ.out.th n 15 u (by omega),jp,k4.out.2.2.1];rfl
            have f15:(V.setCell ⟨g,4+n*29+16,ab⟩ (ad ⟨#[]⟩)).frozen? ⟨g,4+n*29+15,ab⟩=false:=dJ.out.b5 _;have UU:aC<=2:=by rw[k4.out.2.1,k4.out.1];exact Gz _
            have lK:=aa (dJ.out.EG 15 u (by omega) (I R ((se:Int)+1)) {s.T n with dd:=[],cU:=se+1,aG:=aO (s.T n).aG bn ⟨bf,ip,aB⟩} (fun k=>by rw[show({s.T n with dd:=[],cU:=se+1,aG:=aO (s.T n).aG bn ⟨bf,ip,aB⟩}:TH)={({s.T n with dd:=[],aG:=aO (s.T n).aG bn ⟨bf,ip,aB⟩}:TH)with cU:=se+1}from J,af9];rfl));have VV:=aa (lx.out.trans ((Fr.set (g:=g) (O:=O) y V (4+n*29+16) (ad ⟨#[]⟩)).trans (Fr.set y _ (4+n*29+15) (I R ((se:Int)+1)))));have v0:((V.setCell ⟨g,4+n*29+16,ab⟩ (ad ⟨#[]⟩)).setCell ⟨g,4+n*29+15,ab⟩ (I R ((se:Int)+1))).cell? ⟨g,4+n*29,ab⟩=U (I R 2):=by have h0:=lK.out.phase n u;rw[jp]at h0;simp only[bv]at h0;exact h0
            have f0:((V.setCell ⟨g,4+n*29+16,ab⟩ (ad ⟨#[]⟩)).setCell ⟨g,4+n*29+15,ab⟩ (I R ((se:Int)+1))).frozen? ⟨g,4+n*29,ab⟩=false:=lK.out.b5 _;clear HI ni HT HH mo HCB Dk HK EA HVR EP G HD df qg gv ps KT HV lx dJ uf zW ln Ao nn;by_cases fP:se+1=aC
            .rw[if_pos fP]at lV;have HV3:=aa (lK.out.EG 0 u (by omega) (I R 3) {s.T n with dd:=[],cU:=se+1,phase:=3,aG:=aO (s.T n).aG bn ⟨bf,ip,aB⟩} (fun k=>by rw[show({s.T n with dd:=[],cU:=se+1,phase:=3,aG:=aO (s.T n).aG bn ⟨bf,ip,aB⟩}:TH)={({s.T n with dd:=[],cU:=se+1,aG:=aO (s.T n).aG bn ⟨bf,ip,aB⟩}:TH)with phase:=3}from J,amg];rfl));have QL:(((se:Int)+1)==(aC:Int))=true:=by simp;omega
             clear fP;go_wp2_with fail;go_end0;rw[lV.out,<-eE];exact⟨J,y,HV3.out,VV.out.trans (Fr.set y _ _ _)⟩
            .rw[if_neg fP]at lV;have QL:(((se:Int)+1)==(aC:Int))=false:=by simp;omega
             clear fP;go_wp2_with fail;go_end0;rw[lV.out,<-eE];refine⟨J,y,?_,VV.out⟩;have h9:=lK.out;rw[show({s.T n with dd:=[],cU:=se+1,aG:=aO (s.T n).aG bn ⟨bf,ip,aB⟩}:TH)={s.T n with aG:=aO (s.T n).aG bn ⟨bf,ip,aB⟩,dd:=[],cU:=se+1,phase:=2}by simp only[bv]]at h9;exact h9
end Go.Proofs.YtefdakbahplnbaaGreatDoor
