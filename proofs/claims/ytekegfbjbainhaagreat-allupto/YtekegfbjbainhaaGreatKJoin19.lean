import Derived.Test.YtekegfbjbainhaaGreatKJoin18
import Derived.BigRegion
set_option maxRecDepth 100000
set_option maxHeartbeats 4000000
set_option linter.unusedVariables false
set_option linter.unusedSimpArgs false
namespace Go.Proofs.YtekegfbjbainhaaGreat
open Go.RowKit
section
attribute [local go_sem↓] Go.wp_at_zero Go.wp_at_succ
def bZ(a:Option (List UInt8)):Nat:=256*Fj a+Fj (mj 1 a)
def fY(a:Option (List UInt8)):List UInt8:=oq (bZ a) (mj 1 (mj 1 a))
def Wq(a:Option (List UInt8))(b:List UInt8):Option ((Nat×List ej)×List UInt8):=
 match mj (bZ a) (mj 1 (mj 1 a))with
 |none=>none
 |some d=>match Xj (fY a)with
  |none=>none
  |some c=>if Aj (fY a)=b then some (c,d)else none
def GM(i:World)(j:Nat->Prop)(h:Nat)(g:Option (List UInt8))(d:List UInt8)(k:Ending)(b:World):Prop:=
 ∃(a:Nat) (c:dj),k=.returned (.agg #[.int .i64 a,c.val])/\a<256/\bj (fun l=>l=h) i b/\rz b j h ((Wq g d).map (·.2))/\∀f e m,Wq g d=some ((f,e),m)->a=f/\jz b i.heap.size c.val e
theorem rz.bad{d:World}{c:Nat->Prop}{b:Nat}{f:Option (List UInt8)}(a:rz d c b f):rz (d.setCell ⟨b,1,none⟩ (.bool true)) c b none:=by
 obtain⟨g,e,h,a,i⟩:=a;exact⟨g,e,true,a.bad,rfl⟩
theorem dK{a c:World}{e:Nat->Prop}{d lvl:Nat}{cur:dj}{g:Option (List UInt8)}(j:aj c a.heap.size 80 [.int .i64 0,.slice none 0 0])(h:bj (fun b=>b=d) a c)(l:rz c e d g)(n:d<a.heap.size)(i:∀b,e b->b<a.heap.size):
  aj ((c.setCell ⟨a.heap.size,0,none⟩ (.int .i64 lvl)).setCell ⟨a.heap.size,1,none⟩ cur.val) a.heap.size 80 [.int .i64 lvl,cur.val]/\bj (fun b=>b=d) a ((c.setCell ⟨a.heap.size,0,none⟩ (.int .i64 lvl)).setCell ⟨a.heap.size,1,none⟩ cur.val)/\
   rz ((c.setCell ⟨a.heap.size,0,none⟩ (.int .i64 lvl)).setCell ⟨a.heap.size,1,none⟩ cur.val) e d g/\bj (fun b=>b=a.heap.size) c ((c.setCell ⟨a.heap.size,0,none⟩ (.int .i64 lvl)).setCell ⟨a.heap.size,1,none⟩ cur.val):=by
 have f:bj (fun b=>b=a.heap.size) c ((c.setCell ⟨a.heap.size,0,none⟩ (.int .i64 lvl)).setCell ⟨a.heap.size,1,none⟩ cur.val):=((bj.refl (fun b=>b=a.heap.size) c).setCell (p:=⟨a.heap.size,0,none⟩) rfl _).setCell (p:=⟨a.heap.size,1,none⟩) rfl _;exact⟨by simpa using(aj.set j 0 (.int .i64 lvl)).set 1 cur.val,h.inside f (fun q o m=>by omega),l.frame f (by omega) (fun b k=>by have:=i b k;omega),f⟩
theorem nU{a:Option (List UInt8)}{d c:List UInt8}{f:Option (List UInt8)}(e:fY a=c)(g:mj (bZ a) (mj 1 (mj 1 a))=f)(b:Xj c=none\/Aj c≠d):Wq a d=none:=by
 unfold Wq;rw[e];cases mj (bZ a) (mj 1 (mj 1 a))with
 |none=>rfl
 |some i=>
  rcases b with b|b
  .simp only[b]
  .cases Xj c with
   |none=>rfl
   |some h=>simp only[if_neg b]
theorem yJ(j:Nat->Prop)(c:Nat)(d:Option (List UInt8))(A:List UInt8)(b:World)(B:rz b j c d)(bd:∀a,j a->a<b.heap.size):
  CP 32 #[.pointer (some ⟨c,0,none⟩),.string ⟨A.toArray⟩] b (GM b j c d A):=by
 have ao:Below b.heap.size b (b.alloc (.cells #[.int .i64 0,.slice none 0 0] 80)):=tO;have aB:=B.lt;have b3:Hd (Calls _ _ _ _ _):=fJ j c d _ (B.below ao);have aT:Hd (bj (fun a=>a=c) b (b.alloc (.cells #[.int .i64 0,.slice none 0 0] 80))):=bj.of_below_all ao;have ae:Hd (aj (b.alloc (.cells #[.int .i64 0,.slice none 0 0] 80)) b.heap.size 80 [.int .i64 0,.slice none 0 0]):=aj.new b _ _;have W:Hd (∀a,j a->a<b.heap.size):=bd;have b5:Hd (∀g h,Fj d=g->Fj (mj 1 d)=h->bZ d=256*g+h):=fun g h an bC=>by unfold bZ;rw[an,bC]
 clear B bd ao;go_enter Tryz.func32,Tryz.ntmps32;go_wp2_with fail;refine b3.o.mono ?_;rintro e aO ⟨rfl,ar,bT,aA⟩;have b0:Hd (bj (fun a=>a=c) b aO):=aT.o.trans ar;have af:Hd (aj aO b.heap.size 80 [.int .i64 0,.slice none 0 0]):=aj.of_block ae.o (ar.block _ (aj.lt ae.o) (by omega));have cc:=zy d;have b4:Hd (Calls _ _ _ _ _):=fJ j c (mj 1 d) aO aA;have cd:=zy (mj 1 d);generalize Fj d=g at*;generalize Fj (mj 1 d)=h at*;have bP:IntKind.i64.wrap (256*(g:Int))=((256*g:Nat):Int):=by simp only[qaj];omega
 have bR:IntKind.i64.wrap (((256*g:Nat):Int)+(h:Int))=((256*g+h:Nat):Int):=by simp only[qaj];omega
 have b6:Hd (bZ d=256*g+h):=b5.o g h rfl rfl;clear b3 aT ae b5 ar bT aA;go_wp2_with fail;refine b4.o.mono ?_;rintro e aP ⟨rfl,au,c0,bm⟩;have b1:Hd (bj (fun a=>a=c) b aP):=b0.o.trans au;have ag:Hd (aj aP b.heap.size 80 [.int .i64 0,.slice none 0 0]):=aj.of_block af.o (au.block _ (aj.lt af.o) (by omega));have am:Hd (Calls _ _ _ _ _):=nQ j c (256*g+h) (mj 1 (mj 1 d)) aP bm;have be:((256*g+h:Nat):Int)=256*(g:Int)+(h:Int):=by omega
 rw[be]at am;have bS:IntKind.i64.wrap (256*(g:Int)+(h:Int))=256*(g:Int)+(h:Int):=by simp only[qaj];omega
 clear b4 b0 af au c0 bm bP bR be;go_wp2_with fail;refine am.o.mono ?_;rintro e q ⟨U,rfl,av,c1,bn,bO⟩;have M:Hd (bj (fun a=>a=c) b q):=b1.o.trans av;have C:Hd (aj q b.heap.size 80 [.int .i64 0,.slice none 0 0]):=aj.of_block ag.o (av.block _ (aj.lt ag.o) (by omega));have c7:=nJ (256*g+h) (mj 1 (mj 1 d));have ad:Hd (fY d=oq (256*g+h) (mj 1 (mj 1 d))):=by unfold Hd fY;rw[b6.o]
 have a2:Hd (mj (bZ d) (mj 1 (mj 1 d))=mj (256*g+h) (mj 1 (mj 1 d))):=by unfold Hd;rw[b6.o]
 generalize oq (256*g+h) (mj 1 (mj 1 d))=l at*;generalize mj (256*g+h) (mj 1 (mj 1 d))=bo at*;obtain⟨T,Z,H,E,D⟩:=bO;have c4:q.cell? ⟨c,1,none⟩=some (.bool H):=aj.cell E.row 1 (by simp);have ak:Hd (rz q j c bo):=⟨T,Z,H,E,D⟩;have a0:Hd (bo=if H then none else some Z):=D;have al:Hd (Cq q j U l):=bn;clear am b1 ag av c1 bn bS E D;unfold dj.val;cases H with
 |true=>
  have z:Hd (Wq d A=none):=by unfold Hd Wq;rw[a2.o,a0.o];rfl
  have bA:Hd (rz q j c none):=by have:=ak.o;rwa [a0.o]at this
  have aD:=C.o.cell 0 (by simp);have aE:=C.o.cell 1 (by simp);have bD:=C.o.frozen 0;have bE:=C.o.frozen 1;simp only[cN,gN]at aD aE;go_wp2;have bg:bj (fun a=>a=b.heap.size) q ((q.setCell ⟨b.heap.size,0,none⟩ (.int .i64 0)).setCell ⟨b.heap.size,1,none⟩ (.slice none 0 0)):=((bj.refl (fun a=>a=b.heap.size) q).setCell (p:=⟨b.heap.size,0,none⟩) rfl _).setCell (p:=⟨b.heap.size,1,none⟩) rfl _;refine Cv (k:=4) (cs:=[.int .i64 0,.slice none 0 0]) rfl rfl (by simpa using(aj.set C.o 0 (.int .i64 0)).set 1 (.slice none 0 0)) Tryz.underlying80 rfl Tryz.sizePage rfl ?_;refine⟨0,⟨none,0,0⟩,rfl,by omega,M.o.inside bg (fun a6 a5 e=>by omega),?_,?_⟩
  .rw[z.o];have:=bA.o.frame bg (by omega) (fun a I=>by have:=W.o a I;omega);exact this
  .intro K J aI e;rw[z.o]at e;cases e
 |false=>
  have aR:Hd (Calls _ _ _ _ _):=xW j U l q al.o (fun a I=>qN (W.o a I) M.o.size);go_wp2_with fail;refine aR.o.mono ?_;rintro e i ⟨m,f,bp,rfl,X,bi,ax,bk⟩;have b7:Hd (rz i j c (some Z)):=by have:=ak.o.below X;rwa [a0.o]at this
  have a8:Hd (bj (fun a=>a=c) b i):=M.o.inside (bj.of_below X) (fun a6 a5 e=>by have:=M.o.size;omega);have a3:Hd (aj i b.heap.size 80 [.int .i64 0,.slice none 0 0]):=aj.below C.o (aj.lt C.o) X;have b9:Hd (Cq i j U l):=al.o.below X;have bv:Hd (∀(K:Nat) (J:List ej),Xj l=some (K,J)->m=K/\jz i q.heap.size f.val J):=bk;have b2:Hd (bp=(Xj l).isSome):=bi;have F:Hd (BB i (i.alloc (.cells #[.int .i64 m,f.val] 80))):=tO;have aC:=b9.o.below F.o;have a7:Hd (Calls _ _ _ _ _):=tz U.a U.n U.cap l _ aC.bs.n (by unfold maxLen;omega) aC.bs.sl;have a1:Hd (aj (i.alloc (.cells #[.int .i64 m,f.val] 80)) i.heap.size 80 [.int .i64 m,f.val]):=aj.new i _ _;obtain⟨r,s,t,u,v,w,x,y,ap⟩:=uj (Aj l) rfl;have bB:Hd (By l=.agg (cO r s t u v w x y)):=by
   unfold Hd;rw[kx,ap];rfl
  have aS:Hd (Aj l=[r,s,t,u,v,w,x,y]):=ap;have bu:Hd (b.heap.size<=q.heap.size):=M.o.size;clear X bi bk aR ak M C al aC ap c4;unfold dj.val;unfold dj.val at a7 F a1;go_wp2_with fail;refine a7.o.mono ?_;rintro e n ⟨rfl,a4⟩;rw[bB.o];have a9:Hd (bj (fun a=>a=c) b n):=(a8.o.inside (bj.of_below F.o) (fun a6 a5 e=>by have:=a8.o.size;omega)).inside (bj.of_below a4) (fun a6 a5 e=>by have:=a8.o.size;have:=F.o.size;omega);have V:Hd (BB i n):=F.o.trans (a4.mono F.o.size);have ab:Hd (aj n i.heap.size 80 [.int .i64 m,.slice f.a f.n f.cap]):=aj.below a1.o (aj.lt a1.o) a4;have ah:Hd (aj n b.heap.size 80 [.int .i64 0,.slice none 0 0]):=aj.below a3.o (aj.lt a3.o) V.o;have b8:Hd (rz n j c (some Z)):=b7.o.below V.o;have bc:aj (n.alloc (.cells (cO r s t u v w x y) 36)) n.heap.size 36 ([r,s,t,u,v,w,x,y].map fj):=aj.new n 36 ([r,s,t,u,v,w,x,y].map fj);have c8:=wj (P:=Tryz.prog) (n.alloc (.cells (cO r s t u v w x y) 36)) 38 9 5 (some ⟨n.heap.size,0,none⟩) 8 8 [r,s,t,u,v,w,x,y] Tryz.underlying38 Tryz.underlying5 Tryz.underlying9 rfl (jq.of_row bc) (fun B=>by cases B);have L:Hd (BB n (n.alloc (.cells (cO r s t u v w x y) 36))):=tO;have bw:=b8.o.below L.o;have ac:=aj.below ab.o (aj.lt ab.o) L.o;have N:=aj.below ah.o (aj.lt ah.o) L.o;have aa:Hd (bj (fun a=>a=c) b _):=a9.o.inside (bj.of_below L.o) (fun a6 a5 e=>by have:=a9.o.size;omega);have br:Hd (BB i _):=V.o.trans (L.o.mono V.o.size);have c6:b.heap.size<i.heap.size:=by have:=aj.lt a3.o;omega
  clear ab ah a9 V L a1 F a7 b8 a4 bc;go_upto_region 8 with fail;generalize n.alloc (.cells (cO r s t u v w x y) 36)=G at*;obtain⟨T,R,H,E,D⟩:=bw;obtain⟨rfl,rfl⟩:H=false/\R=Z:=by
   cases H with
   |true=>simp at D
   |false=>simp at D;exact⟨rfl,D.symm⟩
  have ai:Hd (NJ G j c T R false):=E;have aA:G.cell? ⟨c,1,none⟩=some (.bool false):=aj.cell E.row 1 (by simp);have c5:=E.row.frozen 1;have c2:=ac.cell 0 (by simp);have c3:=ac.cell 1 (by simp);have aD:=N.cell 0 (by simp);have aE:=N.cell 1 (by simp);have bD:=N.frozen 0;have bE:=N.frozen 1;simp only[cN,gN]at c2 c3 aD aE;have O:Hd (aj G b.heap.size 80 [.int .i64 0,.slice none 0 0]):=N;have bh:b.heap.size≠c:=by omega
  have c9:c≠b.heap.size:=by omega
  have ca:i.heap.size≠c:=by omega
  have cb:i.heap.size≠b.heap.size:=by omega
  clear E D ac N a3 b7 b9;cases bp with
  |false=>
   have z:Hd (Wq d A=none):=nU ad.o a2.o (SM (by have:=b2.o;cases B:Xj l with|none=>rfl|some S=>rw[B]at this;cases this));go_wp2;have Y:bj (fun a=>a=c) G (G.setCell ⟨c,1,none⟩ (.bool true)):=(bj.refl (fun a=>a=c) _).setCell (p:=⟨c,1,none⟩) rfl _;have o:=dK (lvl:=m) (cur:=f) (aj.of_block O.o (Y.block _ (aj.lt O.o) bh)) (aa.o.trans Y) ⟨T,R,true,ai.o.bad,rfl⟩ aB W.o;refine Cv (k:=4) (cs:=[.int .i64 m,.slice f.a f.n f.cap]) rfl rfl o.1 Tryz.underlying80 rfl Tryz.sizePage rfl ?_;refine⟨m,f,rfl,ax,o.2.1,?_,?_⟩
   .rw[z.o];exact o.2.2.1
   .intro K J aI e;rw[z.o]at e;cases e
  |true=>
   by_cases Q:Aj l=A
   .have bf:A=[r,s,t,u,v,w,x,y]:=by rw[<-Q,aS.o]
    have bs:Hd (Aj l=A):=Q;clear Q;have z:Hd (∃S,Xj l=some S/\Wq d A=some (S,R)):=by
     unfold Hd;cases B:Xj l with
     |none=>have:=b2.o;rw[B]at this;cases this
     |some S=>exact⟨S,rfl,by unfold Wq;rw[ad.o,a2.o,a0.o];simp only[B,bs.o];rfl⟩
    subst bf;go_wp2;have o:=dK (lvl:=m) (cur:=f) O.o aa.o ⟨T,R,false,ai.o,rfl⟩ aB W.o;refine Cv (k:=4) (cs:=[.int .i64 m,.slice f.a f.n f.cap]) rfl rfl o.1 Tryz.underlying80 rfl Tryz.sizePage rfl ?_;obtain⟨S,bI,bl⟩:=z.o;refine⟨m,f,rfl,ax,o.2.1,?_,?_⟩
    .rw[bl];exact o.2.2.1
    .intro K J aI e;rw[bl]at e;simp only[yN,YN]at e;obtain⟨rfl,rfl⟩:=e;obtain⟨an,ba⟩:=bv.o K J bI;refine⟨an,?_⟩;have bb:=Hj (base':=b.heap.size) (lj ba br.o) (fun a I=>WM bu.o (ba.lt a I).1);exact ij bb o.2.2.2 (fun a I e=>xj bb O.o (by decide) (by rw[I,e]))
   .have z:Hd (Wq d A=none):=nU ad.o a2.o (RM Q);have bf:([r,s,t,u,v,w,x,y]==A)=false:=by rw[<-aS.o];simpa using Q
    clear Q;go_wp2;have Y:bj (fun a=>a=c) G (G.setCell ⟨c,1,none⟩ (.bool true)):=(bj.refl (fun a=>a=c) _).setCell (p:=⟨c,1,none⟩) rfl _;have o:=dK (lvl:=m) (cur:=f) (aj.of_block O.o (Y.block _ (aj.lt O.o) bh)) (aa.o.trans Y) ⟨T,R,true,ai.o.bad,rfl⟩ aB W.o;refine Cv (k:=4) (cs:=[.int .i64 m,.slice f.a f.n f.cap]) rfl rfl o.1 Tryz.underlying80 rfl Tryz.sizePage rfl ?_;refine⟨m,f,rfl,ax,o.2.1,?_,?_⟩
    .rw[z.o];exact o.2.2.1
    .intro K J aI e;rw[z.o]at e;cases e
end
section
def fq(b:Nat)(a:List ej):List UInt8:=bt ((Gj b a).length/256)::bt ((Gj b a).length%256)::Gj b a
def kw(b:List ej)(a:Nat):List UInt8:=(b[a]?.map (·.key)).getD []
def gq(b:List ej)(a:Nat)(c d:List UInt8):Bool:= !(Op.bytesLess (kw b a) c)&&(a==0||Op.bytesLess (kw b (a - 1)) d)
theorem jy{b:List ej}{a:Nat}(c:a<b.length):kw b a=b[a].key:=by
 unfold kw;rw[UM c];rfl
theorem oQ(d:Nat)(g:Option Addr)(h i:Nat)(c:List ej)(b:World)(w:h=c.length)(u:c.length<=200)(v:d<=200)(l:∀N∈c,Dq N)(y:Aq b g c):
  CP 124 #[.agg #[.int .i64 d,.slice g h i]] b fun s A=>∃o z q,s=.returned (.slice o z q)/\rj A b.heap.size (.slice o z q) (fq d c)/\Below b.heap.size b A:=by
 have j:Below b.heap.size b (b.alloc (.cells #[.int .i64 d,.slice g h i] 80)):=tO;have C:Hd (Calls _ _ _ _ _):=WZ d g h i c _ w u v l (jj.below_all y j);have m:Hd ((Gj d c).length<=6000):=by
  have:=ox d c.length c l;unfold Jq at this;unfold Hd Gj;omega
 clear l y w u v;go_enter Tryz.func124,Tryz.ntmps124;go_wp2_with fail;refine C.o.mono ?_;rintro s f ⟨p,a,r,rfl,k,t⟩;obtain⟨K,x,I⟩:=rj.sl k;have Q:a<=6000:=by have:=m.o;omega
 have R:(a:Int)<=6000:=by omega
 have e:Hd (BB b f):=j.trans (t.mono (by simp));have O:Hd (rj f (b.heap.size+1) (.slice p a r) (Gj d c)):=by unfold Hd;simpa using k
 have n:Hd (a=(Gj d c).length):=x;clear k t j x;have B:Hd (rj (f.alloc (.cells #[.int .u8 ((a:Int)/256),.int .u8 ((a:Int)%256)] 5)) b.heap.size (.slice (some ⟨f.heap.size,0,none⟩) 2 2) [bt (a/256),bt (a%256)]):=by
  have:=rj.built f b.heap.size [bt (a/256),bt (a%256)] (e.o.size) (by simp[maxLen]);simp only[ZM,dN]at this;rw[Uk (by omega),Uk (by omega)]at this;unfold Hd;simpa using this
 go_wp2_with (at_builtin;refine Hq (by rfl) (.tmp 16) (.tmp 17) (by rfl) b.heap.size _ [bt (a/256),bt (a%256)] (by rfl) B.o p a r (Gj d c) (by rfl) n.o (by exact jq.below K tO (TM _)) I (by have:=m.o;simp;omega) (by have:=e.o.size;simp;omega) ?_;intro D M E T H J S F P;clear H);go_ret;refine⟨D,M,E,rfl,?_,?_⟩
 .unfold fq;rw[<-n.o];exact J
 .exact(e.o.alloc e.o.size _).trans (F.below (by have:=e.o.size;simp;omega) (fun L G=>by
   have:L=f.heap.size:=by simpa[Value.ownBlock]using G.symm
   have:=e.o.size;omega))
theorem UX(m:Nat)(f:Option Addr)(k:Nat)(a:List ej)(c:List UInt8)(e:World)(x:a.length<=1000000)(r:Aq e f a):
  CP 33 #[.agg #[.int .i64 m,.slice f a.length k],Hz c] e fun o t=>o=.returned (.int .i64 (pj a c:Int))/\Below e.heap.size e t:=by
 unfold Hz;have s:Aq (e.alloc (.cells #[.int .i64 m,.slice f a.length k] 80)) f a:=jj.below_all r tO;go_enter Tryz.func33,Tryz.ntmps33;go_wp2
 go_loop [5] (fun i=>∃b:Nat,b<=a.length/\i=.int .i64 b/\Hd (pj a c=b+((a.drop b).takeWhile (Rz c)).length)) (fun i=>a.length - (intOf i).toNat)
 case atStart=>exact⟨0,by omega,rfl,by simp[Hd,pj]⟩
 case round=>
  obtain⟨b,w,rfl,h⟩:=hrel;by_cases l:b<a.length
  .obtain⟨u,y,rfl,v,n,_,_⟩:=Aq.cells s b l;unfold Hz at n;have j:Hd (a.drop b=a[b]::a.drop (b+1)):=naj l;have q:(b:Int)<a.length:=by omega
   by_cases d:Rz c a[b]=true
   .have p:Op.bytesLess a[b].key c=true:=d;go_wp2
    go_round
    case rel=>exact⟨b+1,by omega,by go_num,by
     have:=h.o;rw[j.o,Zaj,if_pos d,uN]at this;unfold Hd;omega⟩
    case measure=>simp[intOf];omega
   .have p:Op.bytesLess a[b].key c=false:=by unfold Rz at d;simpa using d
    have g:Hd (pj a c=b):=by
     have:=h.o;rw[j.o,Zaj,if_neg d]at this;unfold Hd;simpa using this
    go_wp2;go_ret;exact⟨by rw[g.o];rfl,by go_grown⟩
  .have g:Hd (pj a c=a.length):=by
     have:=h.o;rw[xaj (by omega)]at this;unfold Hd;simp at this;omega
   have q:¬(b:Int)<a.length:=by omega
   go_wp2;go_ret;exact⟨by rw[g.o];rfl,by go_grown⟩
theorem LZ(r:Nat)(i:Option Addr)(n:Nat)(a:List ej)(c:Nat)(p:c<a.length)(d f:List UInt8)(g:World)(E:a.length<=1000000)(k:Aq g i a):
  CP 127 #[.agg #[.int .i64 r,.slice i a.length n],.int .i64 c,Hz d,Hz f] g fun t v=>t=.returned (.bool (gq a c d f))/\Below g.heap.size g v:=by
 unfold Hz;have e:Aq (g.alloc (.cells #[.int .i64 r,.slice i a.length n] 80)) i a:=jj.below_all k tO;obtain⟨w,F,rfl,y,m,_,_⟩:=Aq.cells e c p;unfold Hz at m;have z:(c:Int)<a.length:=by omega
 have h:Hd (gq a c d f=(!(Op.bytesLess a[c].key d)&&(c==0||Op.bytesLess (kw a (c - 1)) f))):=by unfold Hd gq;rw[jy p]
 cases j:Op.bytesLess a[c].key d with
 |true=>
  clear k e;go_enter Tryz.func127,Tryz.ntmps127;go_wp2;go_ret;exact⟨by rw[h.o,j];rfl,by go_grown⟩
 |false=>
  cases c with
  |zero=>
   clear k e;rw[Nat.zero_mul,eaj]at m;go_enter Tryz.func127,Tryz.ntmps127;go_wp2;go_ret;exact⟨by rw[h.o,j];rfl,by go_grown⟩
  |succ b=>
   have q:b<a.length:=by omega
   obtain⟨x,G,u,_,s,_,_⟩:=Aq.cells e b q;unfold Hz at s;cases u;have l:Hd (kw a (b+1 - 1)=a[b].key):=by unfold Hd;rw[show b+1 - 1=b from rfl,jy q]
   have A:((b:Int)+1==0)=false:=by simp;omega
   have B:(b:Int)+1 - 1=b:=by omega
   have C:(b:Int)<a.length:=by omega
   have D:(b:Int)<=1000000:=by omega
   clear k e;cases o:Op.bytesLess a[b].key f with
   |true=>
    go_enter Tryz.func127,Tryz.ntmps127;go_wp2;go_ret;exact⟨by rw[h.o,j,l.o,o];rfl,by go_grown⟩
   |false=>
    go_enter Tryz.func127,Tryz.ntmps127;go_wp2;go_ret;exact⟨by rw[h.o,j,l.o,o];rfl,by go_grown⟩
structure bJ(W:World)(base:Nat)(lv:dj)(lvls:List Av):Prop where
 own:gQ W base lv.val lvls
 ok:∀i (h:i<lvls.length),px W base i lvls[i]
theorem bJ.below{a b:World}{c:Nat}{lv:dj}{lvls:List Av}(d:bJ a c lv lvls)(e:Below a.heap.size a b):bJ b c lv lvls:=
 ⟨lj d.own e,fun g f=>(d.ok g f).below e⟩
theorem gY(x:dj)(E:List Av)(O a:Nat)(o:dj)(f:List (dj×List ej))(N:Option Addr)(r:Nat)(e:List ej)(g:Nat)(a9:g<e.length)(b:dj×List ej)(c:World)(H:bJ c O x E)(t:E[a]? =some (o,f))(au:a<=100)(ar:e.length<=200)(Z:Aq c N e)(aC:f.length<=1000)(u:f[e[g].below]? =some b):
  CP 125 #[.agg #[.slice x.a x.n x.cap],.agg #[.int .i64 ((a:Int)+1),.slice N e.length r],.int .i64 g] c fun a6 ai=>a6=.returned (.agg #[.int .i64 a,.slice b.1.a b.1.n b.1.cap])/\Below c.heap.size c ai:=by
 have W:a<E.length:=by
  rcases Nat.lt_or_ge a E.length with j|j
  .exact j
  .rw[Saj j]at t;cases t
 have V:px c O a (o,f):=by
  have:=H.ok a W;rw[UM W]at t;rw[lN t]at this;exact this
 obtain⟨a0,U⟩:=jj.ofOwn (s:=x) H.own;obtain⟨K,a1⟩:=jj.ofOwn (s:=o) V.1;obtain⟨h,n,rfl,a8,_,_,M⟩:=Aq.cells Z g a9;obtain⟨d,R⟩:∃d,d=e[g].below:=⟨_,rfl⟩;rw[<-R]at u M;have S:d<f.length:=by
  rcases Nat.lt_or_ge d f.length with j|j
  .exact j
  .rw[Saj j]at u;cases u
 obtain⟨l,m,T,aa,F⟩:=jj.at a0 (i:=a) (v:=.slice o.a o.n o.cap) (by unfold XF;rw[zN,t];rfl);have J:∀D:Nat,D<2->(Fk a f)[d*2+D]? =(QQ a b)[D]? :=fun D ab=>by
  have Q:=tw (QQ a) 2 f (fun _ _=>rfl) d S D ab;have a7:f[d]=b:=by rw[UM S]at u;exact lN u
  rw[a7]at Q;exact Q
 obtain⟨B,C,I,Y,G⟩:=jj.at K (i:=d*2+0) (v:=.int .i64 a) (by rw[J 0 (by omega)];rfl);obtain⟨aE,aI,X,_,P⟩:=jj.at K (i:=d*2+1) (v:=.slice b.1.a b.1.n b.1.cap) (by rw[J 1 (by omega)];rfl);rw[I]at X;cases X;obtain⟨aD,w,A⟩:=x;obtain⟨aO,a2,ac⟩:=o;simp only at T I F U a1;subst T;subst I;have av:(0:Int)<=(a:Int):=abj _;have ax:(a:Int)<=100:=by omega
 have aA:(a:Int)<(w:Int):=by omega
 have an:(0:Int)<=(d:Int):=abj _;have ao:(d:Int)<=1000:=by omega
 have ap:(d:Int)<(a2:Int):=by omega
 have am:(g:Int)<(e.length:Int):=by omega
 have aB:(a:Int)+1 - 1=a:=by omega
 rw[eaj]at G;clear a0 K H V t u J Z U a1 R;have z:Hd (BB c (((c.alloc (.cells #[.slice (some ⟨l,m,none⟩) w A] 146)).alloc (.cells #[.int .i64 ((a:Int)+1),.slice (some ⟨h,n,none⟩) e.length r] 80)).alloc (.cells #[.int .i64 0,.slice none 0 0] 80))):=by unfold Hd;go_grown
 have a3:=(((aj.new c 146 [.slice (some ⟨l,m,none⟩) w A]).alloc (.cells #[.int .i64 ((a:Int)+1),.slice (some ⟨h,n,none⟩) e.length r] 80)).alloc (.cells #[.int .i64 0,.slice none 0 0] 80));have L:=((aj.new_at (c.alloc (.cells #[.slice (some ⟨l,m,none⟩) w A] 146)) 80 (c.heap.size+1) [.int .i64 ((a:Int)+1),.slice (some ⟨h,n,none⟩) e.length r] (by simp)).alloc (.cells #[.int .i64 0,.slice none 0 0] 80));have y:=aj.new_at ((c.alloc (.cells #[.slice (some ⟨l,m,none⟩) w A] 146)).alloc (.cells #[.int .i64 ((a:Int)+1),.slice (some ⟨h,n,none⟩) e.length r] 80)) 80 (c.heap.size+1+1) [.int .i64 0,.slice none 0 0] (by simp);go_enter Tryz.func125,Tryz.ntmps125;go_wp2;generalize ((c.alloc (.cells #[.slice (some ⟨l,m,none⟩) w A] 146)).alloc (.cells #[.int .i64 ((a:Int)+1),.slice (some ⟨h,n,none⟩) e.length r] 80)).alloc (.cells #[.int .i64 0,.slice none 0 0] 80)=q at*;have aR:q.cell? ⟨h,n+g*3+2,none⟩=some (.int .i64 d):=by rw[z.o.cell (p:=⟨h,n+g*3+2,none⟩) a8];exact M
 have aP:q.cell? ⟨l,m+a,none⟩=some (.slice (some ⟨B,C,none⟩) a2 ac):=by rw[z.o.cell (p:=⟨l,m+a,none⟩) aa];exact F
 have aS:q.cell? ⟨B,C+d*2,none⟩=some (.int .i64 a):=by rw[z.o.cell (p:=⟨B,C+d*2,none⟩) Y];exact G
 have aT:q.cell? ⟨B,C+d*2+1,none⟩=some (.slice b.1.a b.1.n b.1.cap):=by rw[z.o.cell (p:=⟨B,C+d*2+1,none⟩) Y];exact P
 have ad:=a3.cell 0 (by simp);have ae:=L.cell 0 (by simp);have af:=L.cell 1 (by simp);have ag:=y.cell 0 (by simp);have ah:=y.cell 1 (by simp);have ak:=y.frozen 0;have al:=y.frozen 1;simp only[cN,gN]at ad ae af ag ah;have a5:Hd (aj q (c.heap.size+1+1) 80 [.int .i64 0,.slice none 0 0]):=y;clear a3 L y M F G P
 go_region
 go_wp2;have a4:aj ((q.setCell ⟨c.heap.size+1+1,0,none⟩ (.int .i64 a)).setCell ⟨c.heap.size+1+1,1,none⟩ (.slice b.1.a b.1.n b.1.cap)) (c.heap.size+1+1) 80 [.int .i64 a,.slice b.1.a b.1.n b.1.cap]:=by
  simpa using(a5.o.set 0 (.int .i64 a)).set 1 (.slice b.1.a b.1.n b.1.cap)
 exact Cv (k:=6) (cs:=[.int .i64 a,.slice b.1.a b.1.n b.1.cap]) rfl rfl a4 Tryz.underlying80 rfl Tryz.sizePage rfl ⟨rfl,((z.o.setCell (by show c.heap.size<=c.heap.size+1+1;omega) _).setCell (by show c.heap.size<=c.heap.size+1+1;omega) _).drew⟩
def yj(b:List (List (List ej)))(c a:Nat):List ej:=((b[c]?.getD [])[a]?).getD []
def Tq(b:List ej)(a:Nat):Nat:=(b[a]?.map (·.below)).getD 0
def Gq(e:List (List (List ej)))(c f:List UInt8):Nat->List ej->List UInt8
 |0,a=>fq 0 a
 |b+1,a=>fq (b+1) a++(List.range a.length).flatMap (fun d=>if gq a d c f=true then Gq e c f b (yj e b (Tq a d))else[])
def Bv(d:List (List (List ej)))(b:List UInt8):Nat->List ej->List UInt8
 |0,a=>fq 0 a
 |c+1,a=>fq (c+1) a++(if pj a b<a.length then Bv d b c (yj d c (Tq a (pj a b)))else[])
def fz(c:List (List (List ej)))(a f:List UInt8)(d:Nat)(e:List ej)(g:Nat):List UInt8:=(List.range g).flatMap (fun b=>if gq e b a f=true then Gq c a f d (yj c d (Tq e b))else[])
theorem Iw(d:List (List (List ej)))(c e:List UInt8)(b:Nat)(a:List ej):Gq d c e (b+1) a=fq (b+1) a++fz d c e b a a.length:=rfl
theorem yW(b:List (List (List ej)))(a e:List UInt8)(c:Nat)(d:List ej):fz b a e c d 0=[]:=rfl
theorem VU(c:List (List (List ej)))(a f:List UInt8)(d:Nat)(e:List ej)(b:Nat)(g:gq e b a f=true):fz c a f d e (b+1)=fz c a f d e b++Gq c a f d (yj c d (Tq e b)):=by
 unfold fz;rw[uaj,KN];simp[g]
theorem uG(e:List (List (List ej)))(a d:List UInt8)(f:Nat)(c:List ej)(b:Nat)(g:gq c b a d=false):fz e a d f c (b+1)=fz e a d f c b:=by
 unfold fz;rw[uaj,KN];simp[g]
theorem vG(c:List (List (List ej)))(a g:List UInt8)(e:Nat)(f:List ej)(b d:Nat)(h:b<=d):(fz c a g e f b).length<=(fz c a g e f d).length:=by
 obtain⟨i,rfl⟩:=Nat.exists_eq_add_of_le h;unfold fz;rw[List.range_add,KN,XM];omega
def Kz(a:List ej):Prop:=a.Pairwise (fun b c=>Op.bytesLess b.key c.key=true)
structure Wx(lvls:List (List (List ej))):Prop where
 len:lvls.length<=7
 cnt:∀(n:Nat) (ps:List (List ej)),lvls[n]? =some ps->ps.length<=61
 ok:∀(n:Nat) (ps:List (List ej)),lvls[n]? =some ps->∀p∈ps,p.length<=60/\(∀x∈p,Dq x)/\Kz p
 bel:∀(n:Nat) (ps up:List (List ej)),lvls[n]? =some ps->lvls[n+1]? =some up->∀p∈up,∀x∈p,x.below<ps.length/\x.key=cz (ps[x.below]?.getD [])
theorem Ck(c:Nat):∀(b a:List ej),(pq c b a).flatten=a++b
 |[],a=>by simp[pq]
 |d::b,a=>by
  unfold pq
  split
  .rw[List.flatten_cons,Ck c b []];simp
  .rw[Ck c b (a++[d])];simp
theorem iX(d:Nat):∀(e:List (List ej)) (a b:Nat),(bq d a e)[b]? =e[b]?.map (fun c=>⟨cz c,Aj (Gj d c),a+b⟩)
 |[],a,b=>by simp[bq]
 |c::f,a,0=>by simp[bq]
 |c::f,a,b+1=>by
  unfold bq;rw[zaj,iX d f (a+1) b,zaj];have:a+1+b=a+(b+1):=by omega
  rw[this]
theorem cZ{a:List ej}(b:a≠[]):∃c∈a,cz a=c.key:=by
 refine⟨a.getLast b,List.getLast_mem b,?_⟩;unfold cz;rw[List.getLast?_eq_some_getLast b];rfl
theorem hY(j:Nat):∀(f:List (List ej)) (e:Nat),f.Pairwise (fun l m=>∀g∈l,∀k∈m,Op.bytesLess g.key k.key=true)->(∀b∈f,b≠[])->Kz (bq j e f)
 |[],_,_,_=>List.Pairwise.nil
 |b::v,e,p,c=>by
  obtain⟨q,r⟩:=List.pairwise_cons.1 p;refine List.pairwise_cons.2 ⟨?_,hY j v (e+1) r (fun a d=>c a (by simp[d]))⟩;intro k t;obtain⟨x,h⟩:=yaj t;rw[iX]at h;obtain⟨a,d,rfl⟩:=Option.map_eq_some_iff.1 h;have i:=mN d;obtain⟨g,s,n⟩:=cZ (c b (by simp));obtain⟨w,u,o⟩:=cZ (c a (by simp[i]));show Op.bytesLess (cz b) (cz a)=true;rw[n,o];exact q a i g s w u
theorem MZ(c:Nat)(a:List ej)(b:Kz a):(∀g∈nj c a,Kz g)/\(nj c a).Pairwise (fun d e=>∀h∈d,∀i∈e,Op.bytesLess h.key i.key=true):=by
 have f:(nj c a).flatten=a:=by unfold nj;rw[Ck];rfl
 unfold Kz at b;rw[<-f,List.pairwise_flatten]at b;exact b
theorem iY:∀(i a:Nat) (b:List ej),Kz b->(∀c∈b,Dq c)->b.length<=60->
  (∀(g:Nat) (f:List (List ej)),(Eq i a b)[g]? =some f->f.length<=61/\∀e∈f,e.length<=60/\(∀c∈e,Dq c)/\Kz e)/\
  (∀(g:Nat) (f l:List (List ej)),(Eq i a b)[g]? =some f->(Eq i a b)[g+1]? =some l->∀e∈l,∀c∈e,c.below<f.length/\c.key=cz (f[c.below]?.getD []))
 |0,a,b,_,_,_=>by simp[Eq]
 |i+1,a,b,x,C,J=>by
  have L:=Ly a b [];have p:(nj a b).length<=61/\∀e∈nj a b,e.length<=60/\(∀c∈e,Dq c)/\Kz e:=by
   refine⟨by unfold nj;omega,fun e k=>⟨?_,fun c j=>?_,(MZ a b x).1 e k⟩⟩
   .have:=Wk a b [] e k;simp at this;omega
   .rcases Lw a b [] e k c j with d|d
    .exact C c d
    .cases d
  unfold Eq;by_cases o:(nj a b).length=1
  .rw[if_pos o];refine⟨fun g f d=>?_,fun g f l d h=>?_⟩
   .cases g with
    |zero=>simp at d;subst d;exact p
    |succ g=>simp at d
   .simp at h
  .rw[if_neg o];have t:b≠[]:=fun z=>by subst z;simp[nj,pq]at o
   have v:∀e∈nj a b,e≠[]:=fQ a b [] (SM t);have K:=Kx a b [] t;have B:(bq a 0 (nj a b)).length<=60:=by
    have:∀(r:Nat) (f:List (List ej)),(bq a r f).length=f.length:=fun r f=>by
     induction f generalizing r with
     |nil=>rfl
     |cons e M H=>simp[bq,H]
    rw[this];unfold nj;omega
   have u:∀c∈bq a 0 (nj a b),Dq c/\c.below<(nj a b).length/\c.key=cz ((nj a b)[c.below]?.getD []):=fun c j=>by
    obtain⟨y,s⟩:=yaj j;rw[iX]at s;obtain⟨m,q,rfl⟩:=Option.map_eq_some_iff.1 s;have w:=mN q;obtain⟨I,E,A⟩:=cZ (v m w);refine⟨⟨?_,?_⟩,?_,?_⟩
    .show(cz m).length<=12;rw[A];exact((p.2 m w).2.1 I E).1
    .show(Aj _).length<=12;rw[Lj];omega
    .show 0+y<_;rw[sN];exact(kN.1 q).1
    .show cz m=cz ((nj a b)[0+y]?.getD []);rw[sN,q];rfl
   obtain⟨F,G⟩:=iY i (a+1) (bq a 0 (nj a b)) (hY a _ 0 (MZ a b x).2 v) (fun c j=>(u c j).1) B;refine⟨fun g f d=>?_,fun g f l d h=>?_⟩
   .cases g with
    |zero=>simp at d;subst d;exact p
    |succ g=>rw[zaj]at d;exact F g f d
   .cases g with
    |zero=>
     simp only[List.getElem?_cons_zero,yN]at d;subst d;rw[zaj]at h;cases i with
     |zero=>simp[Eq]at h
     |succ i=>
      have D:l=nj (a+1) (bq a 0 (nj a b)):=by
       unfold Eq at h
       split at h
       .simpa using h.symm
       .simpa using h.symm
      intro e k c j;rw[D]at k;rcases Lw (a+1) _ [] e k c j with n|n
      .exact(u c n).2
      .cases n
    |succ g=>
     rw[zaj]at d h;exact G g f l d h
theorem yw(a:List ej)(i:Kz a)(h:∀j∈a,Dq j)(g:a.length<=60):Wx (Rj a):=by
 obtain⟨e,f⟩:=iY 7 0 a i h g;exact⟨(oy 7 0 a (by omega)).2,fun c d b=>(e c d b).1,fun c d b=>(e c d b).2,f⟩
theorem Uz(b:Nat)(a:List ej)(c:∀d∈a,Dq d)(e:a.length<=60):(fq b a).length<=1600:=by
 have:=ox b a.length a c;unfold Jq at this;unfold fq Gj;simp only[uN]at this⊢;omega
theorem Gz{a:List (List (List ej))}(g:Wx a)(b c:Nat):(yj a b c).length<=60/\(∀i∈yj a b c,Dq i)/\Kz (yj a b c):=by
 unfold yj;cases f:a[b]? with
 |none=>simp[Kz]
 |some e=>
  cases d:e[c]? with
  |none=>simp[d,Kz]
  |some h=>simpa[d]using g.ok b e f h (mN d)
theorem VX{g:Type}(b:Nat->List g)(c:Nat):∀(a:Nat),(∀f,(b f).length<=c)->((List.range a).flatMap b).length<=a*c
 |0,_=>by simp
 |a+1,d=>by
  have h:=VX b c a d;have:=d a;have e:(List.flatMap b [a]).length=(b a).length:=by simp
  rw[uaj,KN,XM,Nat.add_mul,e];omega
theorem zQ{e:List (List (List ej))}(g:Wx e)(c f:List UInt8):∀(a:Nat) (b:List ej),b.length<=60->(∀j∈b,Dq j)->(Gq e c f a b).length<=1600*61^a
 |0,b,d,h=>by
  have:=Uz 0 b h d;simpa[Gq]using this
 |a+1,b,d,h=>by
  have k:=Uz (a+1) b h d;have l:=VX (fun i=>if gq b i c f=true then Gq e c f a (yj e a (Tq b i))else[]) (1600*61^a) b.length (fun i=>by
   split
   .exact zQ g c f a _ (Gz g a _).1 (Gz g a _).2.1
   .simp)
  have m:b.length*(1600*61^a)<=60*(1600*61^a):=cbj _ d;have n:1600<=1600*61^a:=Nat.le_mul_of_pos_right _ (Nat.pow_pos (by omega));rw[Gq,XM,Gaj];omega
theorem OJ{d:List (List (List ej))}(f:Wx d)(c e:List UInt8)(a:Nat)(i:a<=6)(b:List ej)(h:b.length<=60)(j:∀k∈b,Dq k):(Gq d c e a b).length<=100000000000000:=by
 have l:=zQ f c e a b h j;have g:61^a<=61^6:=Nat.pow_le_pow_right (by omega) i;have m:1600*61^a<=1600*61^6:=Nat.mul_le_mul_left _ g;have n:1600*61^6<=100000000000000:=by decide
 omega
theorem zJ{a:List ej}(k:Kz a)(c:List UInt8)(b:Nat)(h:b<a.length)(i:∀b (j:b<a.length),Rz c a[b]=decide (b<pj a c)):gq a b c c=decide (b=pj a c):=by
 unfold gq;rw[jy h];have f:=i b h;unfold Rz at f;rw[f];cases b with
 |zero=>by_cases e:0=pj a c<;>simp[e]<;>omega
 |succ d=>
  have g:=i d (by omega);unfold Rz at g;rw[show d+1 - 1=d by omega,jy (by omega:d<a.length),g];by_cases e:d+1=pj a c
  .simp[e];omega
  .simp[e];omega
theorem PJ{j:Type}(d:Nat->List j)(b:Nat):∀(a:Nat),(∀c,c<a->c≠b->d c=[])->(List.range a).flatMap d=if b<a then d b else[]
 |0,_=>by simp
 |a+1,f=>by
  rw[uaj,KN,PJ d b a (fun c k i=>f c (by omega) i)];by_cases e:b=a
  .subst e;simp
  .have:=f a (by omega) (fun h=>e h.symm);by_cases g:b<a
   .rw[if_pos g,if_pos (by omega)];simp[this]
   .rw[if_neg g,if_neg (by omega)];simp[this]
theorem NZ{h:List (List (List ej))}(f:Wx h)(b:List UInt8)(g:∀(a:List ej),Kz a->∀c (f:c<a.length),Rz b a[c]=decide (c<pj a b)):∀(d:Nat) (a:List ej),Kz a->Bv h b d a=Gq h b b d a
 |0,a,_=>rfl
 |d+1,a,e=>by
  unfold Bv Gq;rw[PJ _ (pj a b) a.length]
  .split
   .rename_i j
    rw[zJ e b _ j (g a e)];simp only[decide_true,if_true];rw[NZ f b g d _ (Gz f d _).2.2]
   .rfl
  .intro c i k;rw[zJ e b c i (g a e)];simp[k]
end
end Go.Proofs.YtekegfbjbainhaaGreat
