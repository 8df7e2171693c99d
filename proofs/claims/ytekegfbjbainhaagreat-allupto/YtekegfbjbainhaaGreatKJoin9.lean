import Derived.Test.YtekegfbjbainhaaGreatKJoin8
import Derived.Deep.RegionLaw
set_option maxRecDepth 100000
set_option maxHeartbeats 4000000
set_option linter.unusedVariables false
set_option linter.unusedSimpArgs false
namespace Go.Proofs.YtekegfbjbainhaaGreat
open Go.RowKit
def Vq(b:List ej)(a:Nat×Nat):List ej:=(b.drop a.1).take a.2
theorem bY(c:List ej)(b a:Nat)(h:b<=a)(g:a<c.length):Vq c (b,a+1 - b)=Vq c (b,a - b)++[c[a]]:=by
 unfold Vq;have f:(c.drop b)[a - b]? =some c[a]:=by
  rw[oaj,show b+(a - b)=a by omega,UM g]
 obtain⟨d,e⟩:=kN.1 f;simp only;rw[show a+1 - b=(a - b)+1 by omega,RN d,e]
theorem OY(c:Nat)(a:List ej):∀b,b<a.length->(Ej c a b).1.map (Vq a)++pq c (a.drop b) (Vq a ((Ej c a b).2,b - (Ej c a b).2))=pq c a []
 |0,_=>by simp[Ej,Vq]
 |b+1,j=>by
  have d:=OY c a b (by omega);have h:=(Oy c a b).1;have g:b<a.length:=by omega
  rw[naj g,pq,<-bY a _ b h g]at d;have i:(a.drop (b+1)).isEmpty=false:=by
   cases e:a.drop (b+1)with
   |nil=>have:=congrArg List.length e;simp at this;omega
   |cons=>rfl
  rw[i]at d;unfold Ej;rw[UM g];simp only[GN,Option.getD_some];by_cases f:Sx c a[b].key=true
  .rw[if_pos (RM f)];rw[f]at d;simp only[Bool.not_false,Bool.and_self,if_true]at d;simp only[rN,ZM,dN,NN];rw[<-d];simp[Vq]
  .rw[if_neg (fun e=>by rcases e with e|e;omega;exact f e)];rw[tN.2 f]at d;simpa using d
theorem LJ(c:Nat)(a:List ej)(g:a≠[]):(Tz c a).map (Vq a)=nj c a:=by
 obtain⟨b,e⟩:∃b,a.length=b+1:=⟨a.length - 1,by have:=Faj.2 g;omega⟩;have d:=OY c a b (by omega);have h:=(Oy c a b).1;have f:b<a.length:=by omega
 rw[naj f,pq,<-bY a _ b h f,xaj (by omega)]at d;unfold Tz;rw[e];unfold Ej;rw[if_pos (SM e.symm)];simp only[List.isEmpty_nil,Bool.not_true,Bool.and_false,Uaj,if_false,pq]at d;simp only[rN,ZM,dN];exact d
theorem AV(e:Nat)(d:List ej):∀c,c<=d.length->∀b∈(Ej e d c).1,b.1+b.2<=d.length
 |0,_,b,a=>by simp[Ej]at a
 |c+1,g,b,a=>by
  have f:=AV e d c (by omega);have h:=(Oy e d c).1;unfold Ej at a
  split at a
  .rcases fN.1 a with a|a
   .exact f b a
   .simp only[eN]at a;subst a;simp only;omega
  .exact f b a
def LX(a:ej):ej:=⟨a.key,a.more,0⟩
def Nq(a:List ej):List ej:=a.map LX
theorem PY{a:List ej}(d:∀b∈a,b.below=0):Nq a=a:=by
 unfold Nq
 conv=>rhs;rw[<-List.map_id a]
 apply Haj
 intro b e;obtain⟨f,g,c⟩:=b;have:c=0:=d _ e;simp[LX,this]
theorem lQ(d:Nat):∀(a b:List ej),pq d (Nq a) (Nq b)=(pq d a b).map Nq
 |[],b=>by simp[Nq,pq]
 |c::a,b=>by
  have e:Nq (c::a)=LX c::Nq a:=rfl;have f:Nq b++[LX c]=Nq (b++[c]):=by simp[Nq]
  have g:(Nq a).isEmpty=a.isEmpty:=by cases a<;>rfl
  have h:(LX c).key=c.key:=rfl;rw[e,pq,pq,f,g,h]
  split
  .rw[ZM,<-lQ d a []];rfl
  .exact lQ d a (b++[c])
theorem MJ(b:Nat)(a:List ej):nj b (Nq a)=(nj b a).map Nq:=lQ b a []
theorem MX(a:List ej):cz (Nq a)=cz a:=by
 unfold cz Nq;rw[List.getLast?_map];cases a.getLast?<;>rfl
theorem wJ(a:Nat)(b:List ej):Gj a (Nq b)=Gj a b:=by
 unfold Gj Nq;rw[FN,List.flatMap_map];rfl
def vw(b:Nat)(a:List ej):ej:=⟨cz a,Aj (Gj b a),0⟩
theorem dU(a:Nat)(b:List ej):vw a (Nq b)=vw a b:=by
 unfold vw;rw[MX,wJ]
theorem VQ(b:Nat):∀(a:Nat) (c:List (List ej)),Nq (bq b a c)=c.map (vw b)
 |_,[]=>rfl
 |a,e::d=>by
  have:=VQ b (a+1) d;unfold bq;simp only[Nq,ZM]at this⊢;rw[this];rfl
def Wy:Nat->Nat->List ej->Nat×List ej
 |0,a,_=>(a,[])
 |c+1,a,b=>if(nj a b).length=1 then(a,(nj a b).headD [])else Wy c (a+1) ((nj a b).map (vw a))
theorem QY:∀(b a:Nat) (c:List ej),7<=a+b->1<=b->Wy b a (Nq c)=(a+(Eq b a c).length - 1,Nq (((Eq b a c)[(Eq b a c).length - 1]?.getD []).headD []))
 |0,_,_,_,g=>absurd g (by omega)
 |b+1,a,c,i,_=>by
  unfold Wy Eq;rw[MJ,FN];by_cases d:(nj a c).length=1
  .rw[if_pos d,if_pos d];simp only[VN];refine Prod.ext (by simp only;omega) ?_;simp only[Aaj,List.getElem?_cons_zero,Option.getD_some];cases nj a c<;>rfl
  .rw[if_neg d,if_neg d];have e:1<=b:=by
    cases b with
    |zero=>
     exfalso
     apply d
     unfold nj;rw[sJ a (by omega)];rfl
    |succ=>omega
   have f:((nj a c).map Nq).map (vw a)=Nq (bq a 0 (nj a c)):=by
    rw[VQ,Baj]
    apply Haj
    intro h _;exact dU a h
   rw[f,QY b (a+1) _ (by omega) e];have j:=(oy b (a+1) (bq a 0 (nj a c)) e).1;simp only[uN];refine Prod.ext (by simp only;omega) ?_;simp only
   congr 2
   have:(Eq b (a+1) (bq a 0 (nj a c))).length+1 - 1=((Eq b (a+1) (bq a 0 (nj a c))).length - 1)+1:=by omega
   rw[this,zaj]
theorem FU{a:List ej}(b:∀c∈a,c.below=0):Aj (Gj (Wy 7 0 a).1 (Wy 7 0 a).2)=Sz a:=by
 have:=QY 7 0 a (by omega) (by omega);rw[PY b]at this;rw[this];simp only[sN,wJ];rfl
def Iv(b:List Tj)(c:Nat):Prop:=∃a∈b,∃d∈a.ns,Sq d c
theorem Oj.frameS{r l:World}{g:Nat->Prop}{j k:Nat}{f:Option Nat}{e:List Tj}(a:Oj r j f e k)(h:bj g r l)(n:∀b,Bj j f e b->¬g b)(y:∀b,Iv e b->¬g b):Oj l j f e k:=by
 refine⟨?_,a.d8,fun c d=>ij (a.own c d) h (fun b i=>n b (RM (RM ⟨c,d,i⟩))),fun c d s p=>(a.nodes c d s p).frame h (fun b i=>y b ⟨c,d,s,p,i⟩),a.apart,a.foot,a.msb,a.cnt,a.kd⟩;have m:=a.map;cases f with
 |none=>exact m
 |some q=>
  obtain⟨t,u,o,v,w,x⟩:=m;exact⟨t,u,by rw[h.block q (SN.1 o).1 (n q (RM (SM rfl)))];exact o,v,w,x⟩
theorem Iv.lt{c:World}{k e:Nat}{j:Option Nat}{b:List Tj}(d:Oj c k j b e):∀a,Iv b a->a<c.heap.size:=fun a ⟨f,g,l,i,h⟩=>(d.nodes f g l i).lt a h
theorem Bj.ne{i:World}{h n:Nat}{g:Option Nat}{k:List Tj}{p z:dj}(t:qq i h p g z)(j:Oj i h g k n){o c y x:Nat}{m:Value}{A:List Value}(e:i.ownsRow o c y m x A)(r:c≠130)(s:c≠138):∀b,m.ownBlock=some b->¬Bj h g k b:=fun b a w=>by
 rcases w with rfl|d|⟨q,u,d⟩
 .exact xj e t r a
 .subst d;obtain⟨B,D,v,_⟩:=j.map;rcases e.2 with⟨f,_⟩|⟨F,C,E,f,_,l,_⟩
  .rw[f]at a;cases a
  .rw[f]at a;simp only[Value.ownBlock,yN]at a;subst a;rw[v]at l;cases l
 .exact Dv e (j.own q u) s b a d
structure Jz(w0:World)(sb:Nat)(en tr:dj)(mp0:Option Nat)(es0:List Tj)(InF:Nat->Prop)(wr:World)(N:Nat)(mp:Option Nat)(es:List Tj)(o:dj)(nds:List Nd):Prop where
 row:qq wr sb en mp tr
 known:Oj wr sb mp es N
 frame:bj (Bj sb mp0 es0) w0 wr
 muts:∀k,Bj sb mp es k->k<w0.heap.size->Bj sb mp0 es0 k
 own:wr.ownsRow w0.heap.size 138 1 o.val nds.length (nds.map (fun x=>Cj x.b))
 onew:∀k,o.val.ownBlock=some k->¬Bj sb mp es k/\¬Iv es k/\(∀nd∈nds,¬Sq nd k)
 nodes:∀nd∈nds,uq wr nd/\(∀k,Sq nd k->¬Bj sb mp es k)
 kfoot:∀k,Iv es k->k<w0.heap.size->Iv es0 k\/InF k
 nfoot:∀nd∈nds,∀k,Sq nd k->k<w0.heap.size->Iv es0 k\/InF k
theorem Jz.step{l wr s D B:World}{r C:Nat}{G N:dj}{W V:Option Nat}{v H:List Tj}{u:Nat->Prop}{i o':dj}{o:List Nd}{j:Nd}{aa:Nat}{O:List Pj}{a9:List ej}{E:List Nat}(e:Jz l r G N W v u wr C V H i o)
  (a5:Nk wr r C G N V H aa O a9 E j s)(a2:∀a,((∃d∈O,∃t,d.k.a=some t/\t.block=a)\/a∈E)->a<l.heap.size->Iv v a\/u a)(a3:∀a,((∃d∈O,∃t,d.k.a=some t/\t.block=a)\/a∈E)->i.val.ownBlock≠some a)
  (a6:B.ownsRow l.heap.size 138 1 o'.val (o.length+1) (o.map (fun d=>Cj d.b)++[Cj j.b]))(P:Below s.heap.size s D)(a1:bj (fun a=>i.val.ownBlock=some a) D B)(Z:o'.val.ownBlock=i.val.ownBlock\/o'.val.ownBlock=some D.heap.size):
  ∃y m,Jz l r G N W v u B (C+1) y m o' (o++[j]):=by
 obtain⟨y,m,z,L,X,_,_,_,ab,M,A,ac,Y⟩:=a5;have ai:=e.frame.size;have af:=A.size;have x:∀a,i.val.ownBlock=some a->l.heap.size<=a/\a<wr.heap.size:=fun a b=>e.own.lt a b;have K:∀a,i.val.ownBlock=some a->¬Sq j a:=fun a b R=>by
  obtain⟨I,w,ad⟩:=e.onew a b;rcases Y a R (x a b).2 with⟨p,q,c⟩|J
  .exact w ⟨p,q,j,c,R⟩
  .exact a3 a J b
 have U:∀a,i.val.ownBlock=some a->¬Bj r y m a:=fun a b h=>(e.onew a b).1 (M a h (x a b).2);have Q:∀a,Iv m a->a<wr.heap.size->Iv H a\/Sq j a:=fun a ⟨F,a0,d,c,b⟩ _=>by
  rcases ac F a0 d c with rfl|⟨p,q,a8⟩
  .exact RM b
  .exact SM ⟨p,q,d,a8,b⟩
 have T:∀a,i.val.ownBlock=some a->¬Iv m a:=fun a b a4=>by
  rcases Q a a4 (x a b).2 with g|g
  .exact(e.onew a b).2.1 g
  .exact K a b g
 have S:∀a,Sq j a->a<l.heap.size->Iv v a\/u a:=fun a b f=>by
  rcases Y a b (by omega)with⟨p,q,c⟩|J
  .exact e.kfoot a ⟨p,q,j,c,b⟩ f
  .exact a2 a J f
 have a7:s.ownsRow l.heap.size 138 1 i.val o.length (o.map (fun d=>Cj d.b)):=ij e.own A (fun a b=>(e.onew a b).1);have n:bj (fun a=>i.val.ownBlock=some a) s B:=(bj.of_below_all P).trans a1;have ag:=n.size;refine⟨y,m,aj.of_block z (n.block r (aj.lt z) (fun F=>xj a7 z (by decide) F)),L.frameS n (fun a b k=>U a k b) (fun a b k=>T a k b),?_,fun a b f=>e.muts a (M a b (by omega)) f,by rw[XM,rN];exact a6,?_,?_,?_,?_⟩
 .refine(e.frame.inside A (fun a f b=>e.muts a b f)).inside n (fun a f b=>?_);have:=(x a b).1;omega
 .intro a b;rcases Z with g|g
  .rw[g]at b;refine⟨U a b,T a b,fun d c=>?_⟩;rcases fN.1 c with c|c
   .exact(e.onew a b).2.2 d c
   .simp only[eN]at c;subst c;exact K a b
  .rw[g]at b;have ae:=lN b;have ah:=P.size;refine⟨fun h=>?_,fun h=>?_,fun d c h=>?_⟩
   .have:=Bj.lt L (aj.lt z) a h;omega
   .have:=Iv.lt L a h;omega
   .rcases fN.1 c with c|c
    .have:=(e.nodes d c).1.lt a h;omega
    .simp only[eN]at c;subst c;have:=X.lt a h;omega
 .intro d c;rcases fN.1 c with c|c
  .obtain⟨I,w⟩:=e.nodes d c;refine⟨(I.frame A w).frame n (fun a b k=>(e.onew a k).2.2 d c b),fun a b h=>w a b (M a h (I.lt a b))⟩
  .simp only[eN]at c;subst c;exact⟨X.frame n (fun a b k=>K a k b),ab⟩
 .intro a b f;rcases Q a b (by omega)with g|g
  .exact e.kfoot a g f
  .exact S a g f
 .intro d c a b f;rcases fN.1 c with c|c
  .exact e.nfoot d c a b f
  .simp only[eN]at c;subst c;exact S a b f
theorem Jz.start{c:World}{f g:Nat}{h j:dj}{b:Option Nat}{d:List Tj}{InF:Nat->Prop}(l:qq c f h b j)(k:Oj c f b d g):Jz c f h j b d InF c g b d ⟨none,0,0⟩ []:=
 ⟨l,k,bj.refl _ _,fun i a _=>a,iN _ _ _ _,(fun i a=>by cases a),(fun m e=>by cases e),(fun i a _=>SM a),(fun m e=>by cases e)⟩
theorem Jz.below{p wr e:World}{n d:Nat}{f o:dj}{k j:Option Nat}{h g:List Tj}{c:Nat->Prop}{m:dj}{l:List Nd}(a:Jz p n f o k h c wr d j g m l)(b:Below wr.heap.size wr e):Jz p n f o k h c e d j g m l:=
 ⟨aj.below a.row (aj.lt a.row) b,a.known.below b,a.frame.trans (bj.of_below_all b),a.muts,lj a.own b,a.onew,fun q i=>⟨(a.nodes q i).1.below b,(a.nodes q i).2⟩,a.kfoot,a.nfoot⟩
def Nv(d:List Pj)(b:Nat):Prop:=∃c∈d,∃a,c.k.a=some a/\a.block=b
theorem py.part{v:World}{u:Nat}{t:Option Nat}{p:List Tj}{d:dj}{f:List Pj}{e:List ej}(g:Iz v d f e)(J:e.length<=60)(F:∀c∈e,Dq c)(E:∀c∈e,c.below=0)(C:∀r,tx d f r->¬Bj u t p r)(b:Nat×Nat)(K:b.1+b.2<=e.length):
  py v u t p 0 (Fz d.a d.cap b.1 10) b.2 ((f.drop b.1).take b.2) (Vq e b) ⟨none,0,0⟩ []:=by
 obtain⟨B,N,L,_⟩:=vj (a:=d.a) (n':=d.n) (cap:=d.cap) g.own;have G:=(jj.ofOwn (s:=d) g.own).1;have M:=g.len;have A:∀c∈f.drop b.1,c.d.length=8:=fun c h=>g.d8 c (laj h);have o:((f.drop b.1).take b.2).length=b.2:=by rw[aN,oN];omega
 refine⟨?_,o.symm,?_,?_,⟨?_,fun z=>absurd rfl z,?_,?_,by omega⟩,jj.nil _ _,rfl,fun _=>rfl,by simp,(fun w m=>by cases m),?_,(fun w m=>by cases m)⟩
 .have k:=jj.cut (n:=d.n) (cap:=d.cap) (i:=b.1) (size:=10) G (by rw[mv _ g.d8,B]) (by omega) (by omega);rw[<-uJ f g.d8 b.1 (by omega)]at k;have l:=k.take (b.2*10);rw[<-UQ (f.drop b.1) A b.2 (by rw[oN];omega)]at l;exact l
 .rw[o];unfold Vq;rw[aN,oN];omega
 .intro j k l;have D:j<b.2:=by rw[o]at k;exact k
  have x:((f.drop b.1).take b.2)[j]=f[b.1+j]'(by omega):=by rw[List.getElem_take,List.getElem_drop]
  have y:(Vq e b)[j]=e[b.1+j]'(by omega):=by
   have q:(Vq e b)[j]? =e[b.1+j]? :=by unfold Vq;rw[Yaj D,oaj]
   rw[UM l,UM (by omega)]at q;exact lN q
  rw[x,y];exact(g.ok _ (by omega) (by omega)).toL
 .intro c h;exact F c (laj (TN h))
 .intro c h;exact E c (laj (TN h))
 .unfold Vq;rw[aN,oN];omega
 .intro c h I H;exact C _ (RM ⟨c,laj (TN h),SM ⟨I,H,rfl⟩⟩)
theorem GU(p y:Nat)(c x:dj)(q:Option Nat)(t:List Tj)(r:List Pj)(e:List ej)(h:World)(al:qq h p c q x)(af:Oj h p q t y)(bC:y<=900000)(v:Iz h c r e)(ai:e.length<=60)(a2:∀k∈e,Dq k)(au:∀k∈e,k.below=0)(R:∀b,tx c r b->¬Bj p q t b):
  CP 116 #[.pointer (some ⟨p,1,none⟩),c.val] h fun z a8=>∃(n:dj) (i:List Nd) (o:Nat) (a6:Option Nat) (W:List Tj),z=.returned n.val/\Jz h p c x q t (Nv r) a8 o a6 W n i/\o<=y+61/\i.map (·.its)=nj 0 e/\(∀f∈i,f.level=0/\f.bl=[]):=by
 obtain⟨Q,ar,Y,am⟩:=vj (a:=c.a) (n':=c.n) (cap:=c.cap) v.own;have S:=Jz.start (InF:=Nv r) al af;by_cases a1:e=[]
 .subst a1;have bu:r=[]:=Xaj (by have:=v.len;simp at this;omega);subst bu;have ap:c.n=0:=by simpa using Q
  have aB:py h p q t 0 none 0 [] [] ⟨none,0,0⟩ []:=⟨jj.nil _ _,rfl,rfl,(fun G I=>absurd I (wN _)),⟨(fun k d=>by cases d),fun u=>absurd rfl u,(fun k d=>by cases d),by simp,by omega⟩,jj.nil _ _,rfl,fun _=>rfl,by simp,(fun O P=>by cases P),(fun k d=>by cases d),(fun O P=>by cases P)⟩;have M:Hd (Calls _ _ _ _ _):=aX p y c x q t 0 none 0 0 [] [] ⟨none,0,0⟩ [] h al af (by omega) aB;have V:Hd (Jz h p c x q t (Nv []) h y q t ⟨none,0,0⟩ []):=S;have bk:((c.n:Int)==0)=true:=by simp[ap]
  clear v R S aB Q ar Y am ap;unfold dj.val at M⊢;go_enter Tryz.func116,Tryz.ntmps116;go_wp2_with (go_at_call 137;refine M.o.mono ?_;rintro z H ⟨f,rfl,D⟩);go_ret;have a0:=D;obtain⟨_,_,_,_,_,I,ba,bb,_⟩:=a0;have bm:=Ww H h.heap.size 138 1 1 [Cj f.b] (by obtain⟨_,_,_,_,_,_,_,_,_,_,b6,_⟩:=D;exact b6.size) rfl (by simp[maxLen]);obtain⟨a6,W,a4⟩:=V.o.step (o':=⟨some ⟨H.heap.size,0,none⟩,1,1⟩) D (fun b m=>by rcases m with⟨k,d,_⟩|m;cases d;cases m) (fun b m=>by rcases m with⟨k,d,_⟩|m;cases d;cases m) bm (VM _ _) ((bj.refl _ _).alloc _) (RM rfl);exact⟨⟨some ⟨H.heap.size,0,none⟩,1,1⟩,[f],y+1,a6,W,rfl,a4,by omega,by simp[ba,nj,pq],fun k d=>by simp only[eN]at d;subst d;exact⟨I,bb⟩⟩
 .have bp:=Faj.2 a1;have bh:=v.len;have ae:Hd (Calls _ _ _ _ _):=jW 0 c.a c.n c.cap r e h (by rw[Q,v.len]) v.len (by omega) (by omega) (by omega) Y a2 (jj.ofOwn (s:=c) v.own).1 v.ok;have aS:Hd ((Tz 0 e).map (Vq e)=nj 0 e):=LJ 0 e a1;have aR:Hd (∀l∈Tz 0 e,l.1+l.2<=e.length):=fun l X=>AV 0 e e.length (TM _) l X;have a9:Hd ((Tz 0 e).length<=60):=by have:=(Oy 0 e e.length).2;unfold Hd Tz;omega
  generalize Tz 0 e=g at*;have bk:((c.n:Int)==0)=false:=by simp;omega
  have b1:Hd (∀(wr:World) (o:Nat) (B:Option Nat) (A:List Tj) (n:dj) (i:List Nd) (l:Nat×Nat),Jz h p c x q t (Nv r) wr o B A n i->o<=1000000->l∈g->CP 137 #[.pointer (some ⟨p,1,none⟩),.agg #[.int .i64 0,.slice (Fz c.a c.cap l.1 10) l.2 (c.cap - l.1)],.slice none 0 0] wr fun z a8=>∃f,z=.returned (.pointer (some ⟨f.b,0,none⟩))/\Nk wr p o c x B A 0 ((r.drop l.1).take l.2) (Vq e l) [] f a8):=fun wr o B A n i l u ak X=>by
   have bc:=v.frame u.frame R;refine aX p o c x B A 0 _ l.2 _ _ _ ⟨none,0,0⟩ [] wr u.row u.known ak (py.part bc ai a2 au (fun b m bi=>R b m (u.muts b bi ?_)) l (aR.o l X));rcases m with m|⟨k,d,⟨F,L,rfl⟩|⟨F,L,rfl⟩⟩
   .exact(v.own.lt b m).2
   .obtain⟨G,J,rfl⟩:=PN d;exact(v.ok G J (by omega)).key.lt F L
   .obtain⟨G,J,rfl⟩:=PN d;exact(v.ok G J (by omega)).val.lt F L
  have b0:Hd (∀b,Nv r b->b<h.heap.size):=fun b ⟨k,d,F,L,m⟩=>by
   obtain⟨G,J,rfl⟩:=PN d;rw[<-m];exact(v.ok G J (by omega)).key.lt F L
  have V:Hd (Jz h p c x q t (Nv r) h y q t ⟨none,0,0⟩ []):=S;clear v R S am Y ar Q a2 au ai bp bh;unfold dj.val at ae⊢;go_enter Tryz.func116,Tryz.ntmps116;go_wp2_with (go_at_call 138;refine ae.o.mono ?_;rintro z H ⟨j,rfl,a3,be⟩);have aC:j.n=g.length:=(vj (a:=j.a) (n':=j.n) (cap:=j.cap) a3).1;have U:Hd (j.n=g.length):=aC;have bo:(j.n:Int)<=60:=by have:=a9.o;omega
  have bn:j.n<=60:=by have:=a9.o;omega
  have ad:Hd (H.ownsRow h.heap.size 67 1 (.slice j.a j.n j.cap) g.length (g.map (Uq c.a c.cap 10))):=a3;have b3:Hd (Jz h p c x q t (Nv r) H y q t ⟨none,0,0⟩ []):=V.o.below be;clear aC a3
  go_loopw [5,7,18] (fun bw _ a5 wr=>∃(b o:Nat) (B:Option Nat) (A:List Tj) (n:dj) (i:List Nd),b<=j.n/\a5=.int .i64 b/\bw=n.val/\o<=y+b/\Hd (Jz h p c x q t (Nv r) wr o B A n i)/\Hd (i.map (·.its)=(g.take b).map (Vq e))/\Hd (∀f∈i,f.level=0/\f.bl=[])/\Hd (wr.ownsRow h.heap.size 67 1 (.slice j.a j.n j.cap) g.length (g.map (Uq c.a c.cap 10)))) (fun _ _ a5 _=>j.n - (intOf a5).toNat)
  case atStart=>exact⟨0,y,q,t,⟨none,0,0⟩,[],by omega,by simp,rfl,by omega,b3,rfl,(fun f bl=>by cases bl),ad⟩
  case round=>
   obtain⟨b,o,B,A,n,i,m,rfl,rfl,ak,C,T,ab,N⟩:=hrel;by_cases bf:b<j.n
   .have bg:(b:Int)<j.n:=by omega
    have Z:b<g.length:=by have:=U.o;omega
    obtain⟨O,aI,aA,P,an⟩:=(jj.ofOwn (s:=j) N.o).1 b (by simpa using Z);have bD:wr.cell? ⟨O,aI+b,none⟩=some (.slice (Fz c.a c.cap g[b].1 10) g[b].2 (c.cap - g[b].1)):=by rw[an];simp[Uq]
    have M:Hd (Calls _ _ _ _ _):=b1.o wr o B A n i g[b] C.o (by omega) (bN Z);have b4:Hd ((g.take (b+1)).map (Vq e)=(g.take b).map (Vq e)++[Vq e g[b]]):=by unfold Hd;rw[RN Z,rN];rfl
    have aa:Hd (∀w,((∃k∈(r.drop g[b].1).take g[b].2,∃F,k.k.a=some F/\F.block=w)\/w∈([]:List Nat))->Nv r w):=fun w u=>by
     rcases u with⟨k,d,u⟩|u
     .exact⟨k,laj (TN d),u⟩
     .cases u
    obtain⟨bE,bB,bA⟩:=j;simp only at aA bg bf m bn bo U N ad;subst aA;generalize g[b]=l at*;have ac:Hd (i.length<=b):=by
     have:=congrArg List.length T.o;simp at this;unfold Hd;omega
    have b2:Hd (∀(E:World) (f:Nd),Nk wr p o c x B A 0 ((r.drop l.1).take l.2) (Vq e l) [] f E->(E.alloc (.cells #[.pointer (some ⟨f.b,0,none⟩)] 138)).ownsRow h.heap.size 138 1 (.slice n.a n.n n.cap) i.length (i.map (fun k=>Cj k.b))/\h.heap.size<=(E.alloc (.cells #[.pointer (some ⟨f.b,0,none⟩)] 138)).heap.size/\E.ownsRow h.heap.size 67 1 (.slice (some ⟨O,aI,none⟩) bB bA) g.length (g.map (Uq c.a c.cap 10))):=fun E f D=>by
     obtain⟨_,_,_,_,_,_,_,_,_,_,a7,_⟩:=D;have I:=ij C.o.own a7 (fun b m=>(C.o.onew b m).1);refine⟨I.alloc _,?_,ij N.o a7 (Bj.ne C.o.row C.o.known N.o (by decide) (by decide))⟩;have:=C.o.frame.size;have:=a7.size;simp;omega
    have aP:Hd (∀f:Nd,∀aO∈[Value.pointer (some ⟨f.b,0,none⟩)],aO.oneCell'=true):=fun f aO aE=>by simp at aE;subst aE;rfl
    clear an;unfold dj.val;go_wp2_with (first
     |(go_at_call 137;refine M.o.mono ?_;rintro z E ⟨f,rfl,D⟩;obtain⟨ax,bs,aD⟩:=b2.o E f D)
     |(at_builtin;refine rq (by rfl) (.tmp 22) (.tmp 27) 128 (by rfl) h.heap.size 138 _ 1 8 Tryz.underlying128 Tryz.infoNodeP rfl (by decide) (.slice n.a n.n n.cap) i.length (i.map (fun k=>Cj k.b)) (by rfl) ax (some ⟨E.heap.size,0,none⟩) 1 1 [.pointer (some ⟨f.b,0,none⟩)] (by rfl) rfl (jj.alloc_new E _ _) (fun u=>by cases u) (aP.o f) (by have:=ac.o;unfold maxLen;omega) (by have:=ac.o;omega) bs ?_;intro bI bO av ao bd;obtain⟨ag,ah,br,_⟩:=Nj av;subst br))
    have a0:=D;obtain⟨_,_,_,_,_,b7,b8,b9,_⟩:=a0;obtain⟨bv,b5,a4⟩:=C.o.step (o':=⟨ag,i.length+1,ah⟩) D (fun w K _=>RM (aa.o w K)) (fun w K z=>by have:=b0.o w (aa.o w K);have:=(C.o.own.lt w z).1;omega) av tO ao bd;refine⟨⟨b+1,o+1,bv,b5,⟨ag,i.length+1,ah⟩,i++[f],by omega,by go_num,rfl,by omega,a4,?_,?_,?_⟩,by simp[intOf];omega⟩
    .unfold Hd;rw[b4.o,rN,T.o];simp[b8]
    .intro k d;rcases fN.1 d with d|d
     .exact ab.o k d
     .simp only[eN]at d;subst d;exact⟨b7,b9⟩
    .exact ij (aD.alloc _) ao (fun w K z=>Dv (aD.alloc _) ax (by decide) w K z)
   .obtain rfl:b=j.n:=by omega
    have aT:Hd (g.take j.n=g):=by unfold Hd;rw[U.o,raj]
    unfold dj.val;go_wp2;go_ret;exact⟨n,i,o,B,A,rfl,C.o,by omega,by rw[T.o,aT.o,aS.o],ab.o⟩
theorem Jz.compose{o x y:World}{m z p:Nat}{h n:dj}{u s t:Option Nat}{j i q:List Tj}{g:Nat->Prop}{A w:dj}{l v:List Nd}(f:Jz o m h n u j g x z s i A l)(c:Jz x m h n s i (fun a=>∃e∈l,Sq e a) y p t q w v):Jz o m h n u j g y p t q w v:=by
 have B:=f.frame.size;have r:∀a,(Iv i a\/∃e∈l,Sq e a)->a<o.heap.size->Iv j a\/g a:=fun a b d=>by
  rcases b with b|⟨e,k,b⟩
  .exact f.kfoot a b d
  .exact f.nfoot e k a b d
 exact⟨c.row,c.known,f.frame.inside c.frame (fun a d b=>f.muts a b d),fun a b d=>f.muts a (c.muts a b (by omega)) d,Hj c.own (fun a b=>by have:=(c.own.lt a b).1;omega),c.onew,c.nodes,fun a b d=>r a (c.kfoot a b (by omega)) d,fun e k a b d=>r a (c.nfoot e k a b (by omega)) d⟩
def Gy(a:Nd):Pj:=⟨a.la,⟨none,0,0⟩,Aj (Gj a.level a.its)⟩
def Gv(a:Nd):ej:=vw a.level a.its
theorem py.up{h:World}{p:Nat}{o:Option Nat}{l:List Tj}{i:Nat}{k:Option Addr}{e:dj}{b:List Nd}(y:i≠0)(x:i<=6)(D:b.length<=60)(g:∀a∈b,uq h a/\(∀n,Sq a n->¬Bj p o l n))(z:Mk h k (b.map Gy))
  (f:jj h e.a ((b.map (·.b)).map Cj))(u:e.n=b.length)(v:e.a=none->e.cap=0):py h p o l i k b.length (b.map Gy) (b.map Gv) e (b.map (·.b)):=by
 refine⟨z,by simp,by simp,?_,⟨?_,?_,?_,by simp;omega,x⟩,f,by simp[u],v,by simp;omega,?_,?_,?_⟩
 .intro m t C;have w:m<b.length:=by simpa using t
  simp only[Paj];have s:=(g b[m] (bN w)).1;exact⟨s.la,fun r=>absurd r y,fun _=>rfl,rfl⟩
 .intro j d;obtain⟨a,c,rfl⟩:=vN.1 d;exact⟨XZ (g a c).1.pg.ok,by show(Aj _).length<=12;rw[Lj];omega⟩
 .intro _ j d;obtain⟨a,c,rfl⟩:=vN.1 d;rfl
 .intro j d;obtain⟨a,c,rfl⟩:=vN.1 d;rfl
 .intro q f;obtain⟨a,c,rfl⟩:=vN.1 f;exact⟨_,(g a c).1.row⟩
 .intro j d B A;obtain⟨a,c,rfl⟩:=vN.1 d;exact(g a c).2 _ (RM (SM ⟨B,A,rfl⟩))
 .intro q f;obtain⟨a,c,rfl⟩:=vN.1 f;exact(g a c).2 _ (SM rfl)
structure tZ(w wr:World)(pb level:Nat)(v:dj)(xs:List Pj):Prop where
 bel:Below w.heap.size w wr
 row:aj wr pb 171 [.int .i64 level,v.val]
 own:wr.ownsRow w.heap.size 74 10 v.val xs.length (Sj xs)
theorem tZ.push{b wr i c:World}{a n:Nat}{v v':dj}{e:List Pj}{h:Pj}(f:tZ b wr a n v e)(w:b.heap.size<=a)(k:Below wr.heap.size wr i)(r:c.ownsRow b.heap.size 74 10 v'.val (e.length+1) (Sj e++qv h))(q:bj (fun d=>v.val.ownBlock=some d) i c):tZ b (c.setCell ⟨a,1,none⟩ v'.val) a n v' (e++[h])/\c.cell? ⟨a,1,none⟩=some v.val/\c.frozen? ⟨a,1,none⟩=false:=by
 have s:=lj f.own k;have m:=f.row.below f.row.lt k;have g:aj c a 171 [.int .i64 n,v.val]:=m.of_block (q.block a m.lt (fun j=>xj s m (by decide) j));have o:Below b.heap.size b i:=f.bel.trans (k.mono f.bel.size);have u:Below b.heap.size b c:=o.trans (q.below o.size (fun d l=>(s.lt d l).1));refine⟨⟨u.setCell (p:=⟨a,1,none⟩) w _,by simpa using g.set 1 v'.val,?_⟩,g.cell 1 (by simp),g.frozen 1⟩;have t:Sj (e++[h])=Sj e++qv h:=by simp[Sj]
 rw[XM,t];exact ij r ((bj.refl (fun d=>d=a) _).setCell (p:=⟨a,1,none⟩) rfl _) (fun d l j=>xj r g (by decide) (by rw[l,j]))
end Go.Proofs.YtekegfbjbainhaaGreat
