/- Small lemmas of my own that every walk of this seat uses: a world forgotten but for what is said of it, a fact hidden, old cells behind 'Below'. -/
import Derived.Test.YtefdakbahplnbaaGreatDoorRows
import Derived.WalkKit
import Derived.WalkSpells
import Derived.WalkLawsBesides
import Derived.Deep.QuietTactic
import Derived.BigQuiet
import Derived.Handy
import Derived.Great.BuildSlice
import Derived.Deep.WholeRow
open Go.Proofs.Tryz
open Go renaming Calls->ap,Oper->bz,Program->jf,TypeId->c6,Value->ag,World->ac
open Go.Ending renaming returned->aq
open Go.Proofs.Tryz renaming prog->ae
open Go.Value renaming agg->aw,bool->aH,int->I,pointer->av
open Option renaming none->ab,some->U
namespace Go.Proofs.YtefdakbahplnbaaGreatDoor
open Go.RowKit
theorem aa{p:Prop}(h:p):Hid p:=h
theorem IF{P:jf}{c:Code}{aE:Exit->Act->ac->Prop}{a:Act}{W0:ac}(d5:ac->Prop)(h:d5 W0)(ge:∀W,d5 W->Code.wp P c aE a W):Code.wp P c aE a W0:=ge _ h
theorem kL{W w1:ac}(hb:Below W.heap.size W w1):(∀b o,b<W.heap.size->w1.cell? ⟨b,o,ab⟩=W.cell? ⟨b,o,ab⟩)/\(∀b o,b<W.heap.size->w1.frozen? ⟨b,o,ab⟩=W.frozen? ⟨b,o,ab⟩):=⟨fun b o h=>hb.cell (p:=⟨b,o,ab⟩) h,fun b o h=>hb.frozen (p:=⟨b,o,ab⟩) h⟩
theorem ia{k:IntKind}{a b:Int}(h:a=b):aq (I k a)=aq (I k b):=by rw[h]
theorem gm{a b:Bool}(h:a=b):aq (aH a)=aq (aH b):=by rw[h]
theorem jq{D:Nat}{a w:ac}(h:Below D a w)(n:Nat):Below D a (w.drewN n):=⟨h.os,h.tape,h.output,h.size,h.block⟩
theorem JR{P:jf}{f:FuncId}{args:Array ag}{w:ac}{a n:Nat}{v:ag}(h:ap P f args (w.drewN (a+n)) fun e w'=>e=aq v/\w'=w.drewN (a+n)):ap P f args (w.drewN (a+n)) fun e bF=>e=aq v/\∃m,bF=w.drewN (a+m):=h.mono fun _ _⟨he,hm⟩=>⟨he,n,hm⟩
theorem ahe(f:Int)(w:ac):ap ae 7 #[.nilIface,I .i64 f] w fun e w'=>e=aq (aH (f==0))/\w'=w:=by go_enter func7,ntmps7;go_wp2;go_ret;exact⟨rfl,rfl⟩
theorem abz(n:Int)(w:ac):(Instr.typeAssert (.iface 43 (I .i64 n)) 25 43 true).run ae w= .ok (.tuple #[I .i64 n,aH true]) w:=by kernel_rfl
theorem aou(n f:Int)(w:ac):ap ae 7 #[.iface 43 (I .i64 n),I .i64 f] w fun e w'=>e=aq (aH (decide (0<f)&&n==f))/\w'=w:=by
 have E0:=abz n;by_cases h:0<f;.go_enter func7,ntmps7;go_wp2;go_ret;exact⟨by simp[h],rfl⟩
 .have hd:decide (0<f)=false:=by simpa using h
  rw[hd];go_enter func7,ntmps7;go_wp2;go_ret;exact⟨rfl,rfl⟩
theorem LT{α:Type}:(∀(l:List α)(i:Nat)(a:α),l.toArray.setIfInBounds i a=(l.set i a).toArray)/\(∀(a b:α)(l:List α),(a::l).set 0 b=b::l)/\∀(a b:α)(l:List α)(n:Nat),(a::l).set (n+1) b=a::l.set n b:=⟨fun l i a=>List.setIfInBounds_toArray l i a,fun _ _ _=>List.set_cons_zero,fun _ _ _ _=>List.set_cons_succ⟩
theorem af{α:Sort _}(a:α):∃x,x=a:=⟨a,rfl⟩
theorem J{α:Sort _}{a:α}:a=a:=rfl
end Go.Proofs.YtefdakbahplnbaaGreatDoor
namespace Go.Proofs.YtefdakbahplnbaaGreatDoor.Gl
open Go.RowKit
def oe(n:Nat)(f:Nat->Bool):Array ag:=Array.ofFn (n:=n) fun i=>aH (f i)
def LA(n:Nat)(f:Nat->Bool):Array ag:=if h:n=0 then#[]else(LA (n-1) f).push (aH (f (n-1)))
theorem pV(n:Nat)(f:Nat->Bool):LA n f=oe n f:=by
 induction n with
  |zero=>rw[LA];simp[oe]
  |succ n ih=>
   rw[LA];simp only[Nat.add_one_ne_zero,dite_false,Nat.add_sub_cancel,ih];apply Array.ext_getElem?;intro i;rw[Array.getElem?_push];have hz:(oe n f).size=n:=by simp[oe]
   rw[hz];by_cases hi:i=n;.subst hi;simp[oe]
   .rw[if_neg hi];by_cases hl:i<n;.simp[oe,hl,show i<n+1 by omega]
    .simp[oe,hl,show¬i<n+1 by omega]
def PF(f:Nat->Bool)(m:Bool):Nat->Bool:=fun i=>if i=256 then m else f i
def cS(f:Nat->Bool)(i:Nat)(b:Bool):Nat->Bool:=fun j=>if j=i then b else f j
theorem il(n:Nat)(f:Nat->Bool):(LA n f).size=n:=by rw[pV];simp[oe]
theorem lX(n:Nat)(f:Nat->Bool)(i:Nat)(h:i<n):(LA n f)[i]?=U (aH (f i)):=by rw[pV];simp[oe,h]
theorem tZ(n:Nat)(f:Nat->Bool)(i:Nat)(b:Bool):(LA n f).setIfInBounds i (aH b)=LA n (cS f i b):=by
 apply Array.ext_getElem?;intro j;rw[Array.getElem?_setIfInBounds];by_cases hj:j<n
 .rw[lX n f j hj,lX n _ j hj,il];by_cases h:i=j;.subst h;simp[cS,hj]
  .have h':¬j=i:=fun e=>h e.symm;simp[h,h',cS]
 .have e1:(LA n f)[j]?=ab:=by simp[il];omega
  have e2:(LA n (cS f i b))[j]?=ab:=by simp[il];omega
  rw[e1,e2,il];by_cases h:i=j;.subst h;simp[hj]
  .simp[h]
theorem P9(n:Nat)(f:Nat->Bool):(LA n f).all (·.oneCell')=true:=by rw[pV,Array.all_eq_true];intro i h;simp[oe,Value.oneCell']
theorem Sz(n:Nat)(f g:Nat->Bool)(h:∀i,i<n->f i=g i):LA n f=LA n g:=by
 rw[pV,pV];apply Array.ext;.simp[oe]
 .intro i q h2;simp only[oe,Array.size_ofFn]at q;simp[oe,h i q]
theorem below_setRow{D:Nat}{a w:ac}(h:Below D a w){g:Nat}(hg:D<=g)(cs:Array ag):Below D a (w.setRow g cs):=⟨h.os,h.tape,h.output,by simpa using h.size,fun k z=>(setRow_other w g k cs (by omega)).trans (h.block k z)⟩
theorem Oe{P:jf}{t:c6}{n:Nat}(h:(P.info? t).map (·.zero)=U (U (aw (LA n fun _=>false))))(w:ac):(zeroValue t).run P w= .ok (aw (LA n fun _=>false)) w:=by
 cases N:P.info? t with
  |none=>simp[N]at h
  |some i=>simp[N]at h;simp[zeroValue,typeInfo,N,h]
theorem ag9:(ae.info? 249).map (·.zero)=U (U (aw (LA 256 fun _=>false))):=by rw[pV];kernel_rfl
theorem abj:(ae.info? 298).map (·.zero)=U (U (aw (LA 257 fun _=>false))):=by rw[pV];kernel_rfl
theorem ag8:(ae.info? 346).map (·.zero)=U (U (aw (LA 25 fun _=>false))):=by rw[pV];kernel_rfl
theorem wN:(ae.info? 249).map (·.size)=U 256:=by kernel_rfl
theorem jd:(ae.info? 298).map (·.size)=U 257:=by kernel_rfl
theorem xJ:(ae.info? 346).map (·.size)=U 25:=by kernel_rfl
theorem FV(w:ac):(zeroValue 249).run ae w= .ok (aw (LA 256 fun _=>false)) w:=Oe ag9 w
theorem qG(w:ac):(zeroValue 298).run ae w= .ok (aw (LA 257 fun _=>false)) w:=Oe abj w
theorem R3(w:ac):(zeroValue 346).run ae w= .ok (aw (LA 25 fun _=>false)) w:=Oe ag8 w
theorem GH(w:ac):(Instr.build 298 #[]).run ae w= .ok (aw (LA 257 fun _=>false)) w:=by rw[pV];kernel_rfl
theorem Bf{P:jf}{a_:Array bz}{rest:List bz}{o:bz}{a:Act}{w:ac}{aE:Exit->Act->ac->Prop}(t:c6)(n k:Nat)(e:c6)(de:o.guard=ab)(x:Operand)(ho:o.op= .load t x)(g:Nat)(hx:a.eval x=av (U ⟨g,0,ab⟩))(hu:P.underlying t=U (.array k e))(hi:(P.info? t).map (·.size)=U n)(f:Nat->Bool)(t':c6)(hg:w.heap[g]?=U (.cells (LA n f) t' (0,0)))(h:wpList P a_ aE rest (a.put o.dst (aw (LA n f))) w):wpList P a_ aE (o::rest) a w:=wpList_load_row de t x ho g hx t' (LA n f) (0,0) _ hg hu J (by rw[il];exact hi) h
theorem h_{P:jf}{a_:Array bz}{rest:List bz}{o:bz}{a:Act}{w:ac}{aE:Exit->Act->ac->Prop}(t:c6)(n:Nat)(de:o.guard=ab)(x al:Operand)(ho:o.op= .store t x al)(g:Nat)(hx:a.eval x=av (U ⟨g,0,ab⟩))(f:Nat->Bool)(hy:a.eval al=aw (LA n f))(hi:(P.info? t).map (·.size)=U n)(jX:Nat->Bool)(t':c6)(hg:w.heap[g]?=U (.cells (LA n jX) t' (0,0)))(h:wpList P a_ aE rest (a.put o.dst undef) (w.setRow g (LA n f))):wpList P a_ aE (o::rest) a w:=wpList_store_row de t x al ho g (LA n f) hx hy t' (LA n jX) hg (by rw[il];exact hi) (by rw[il,il]) (P9 _ _) h
theorem Ka{P:jf}{fn:Func}{p:Tmp}{t:c6}(n k:Nat)(e:c6)(h:fn.results=#[.cell p t])(tmps:Array ag)(w:ac)(g:Nat)(f:Nat->Bool)(t':c6)(hp:tmps.getD p undef=av (U ⟨g,0,ab⟩))(hg:w.heap[g]?=U (.cells (LA n f) t' (0,0)))(hu:P.underlying t=U (.array k e))(hi:(P.info? t).map (·.size)=U n):(results fn tmps).run P w= .ok (aw (LA n f)) w:=results_cell_row h tmps w g t' (LA n f) (0,0) _ hp hg hu J (by rw[il];exact hi)
theorem hQ{w:ac}{g:Nat}{cs:Array ag}{t:c6}(mZ:Array ag)(h:w.heap[g]?=U (.cells cs t (0,0))):(w.setRow g mZ).heap[g]?=U (.cells mZ t (0,0)):=setRow_heap w g cs mZ t (0,0) h
theorem FB(n:Nat)(f:Nat->Bool)(i:Nat)(h:i<(LA n f).size):(LA n f)[i]=aH (f i):=by have:=lX n f i (by rw[il]at h;exact h);rw[Array.getElem?_eq_getElem h]at this;exact Option.some.inj this
end Go.Proofs.YtefdakbahplnbaaGreatDoor.Gl
