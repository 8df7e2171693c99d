import Derived.Test.YtekegfbjbainhaaGreatKJoin20
set_option maxRecDepth 100000
set_option maxHeartbeats 2000000
set_option linter.unusedVariables false
set_option linter.unusedSimpArgs false
namespace Go.Proofs.YtekegfbjbainhaaGreat
open Go.RowKit
structure Cy(w:World)(pb:Nat)(T P:List Value)(W:World):Prop where
 bel:Below w.heap.size w W
 tr:aj W w.heap.size 146 T
 pg:aj W pb 80 P
theorem Cy.next{h b f:World}{g:Nat}{e d:List Value}(a:Cy h g e d b)(c:Below b.heap.size b f):Cy h g e d f:=⟨a.bel.trans (c.mono a.bel.size),a.tr.below a.tr.lt c,a.pg.below a.pg.lt c⟩
theorem Cy.frame{g b j:World}{l:Nat}{i h:List Value}{m:Value}{o:List UInt8}{k:Nat}(a:Cy g l i h b)(e:rj b k m o)(p:g.heap.size<=k)(d:bj (fun f=>m.ownBlock=some f) b j):Cy g l i h j:=
 ⟨a.bel.trans (d.below a.bel.size (fun f n=>by have:=(e.lt f n).1;omega)),a.tr.of_block (d.block _ a.tr.lt (fun c=>xj e a.tr (by decide) c)),a.pg.of_block (d.block _ a.pg.lt (fun c=>xj e a.pg (by decide) c))⟩
theorem Cy.turn{b g:World}{a:Nat}{f:List Value}{h i:Value}(c:Cy b a f [h,i] g)(j:b.heap.size<a)(d e:Value):Cy b a f [d,e] ((g.setCell ⟨a,0,none⟩ d).setCell ⟨a,1,none⟩ e):=
 ⟨(c.bel.setCell (by show b.heap.size<=a;omega) _).setCell (by show b.heap.size<=a;omega) _,(c.tr.other (by show b.heap.size≠a;omega) _).other (by show b.heap.size≠a;omega) _,by simpa using(c.pg.set 0 d).set 1 e⟩
theorem rj.turn{b:World}{c a g:Nat}{h:Value}{f:List UInt8}{k:List Value}(d:rj b c h f)(n:aj b a g k)(o:5≠g)(i j:Value):rj ((b.setCell ⟨a,0,none⟩ i).setCell ⟨a,1,none⟩ j) c h f:=
 ij d (((bj.refl (fun e=>e=a) b).setCell (p:=⟨a,0,none⟩) rfl i).setCell (p:=⟨a,1,none⟩) rfl j) (fun e m l=>xj d n o (by rw[m,l]))
theorem AQ{g:List (List (List ej))}(c:Wx g)(f:List UInt8):∀(b:Nat) (a:List ej),a.length<=60->(∀h∈a,Dq h)->(Bv g f b a).length<=1600*(b+1)
 |0,a,d,e=>by
  have:=Uz 0 a e d;simpa[Bv]using this
 |b+1,a,d,e=>by
  have i:=Uz (b+1) a e d;have j:=AQ c f b (yj g b (Tq a (pj a f))) (Gz c b _).1 (Gz c b _).2.1;rw[Bv,XM]
  split
  .omega
  .simp;omega
theorem fK(b:dj)(f:List Av)(a8 m:Nat)(U:dj)(F:dj×List ej)(rest:List (dj×List ej))(l:List UInt8)(h:World)(x:Wx (pz f))(bs:f.length=m+1)(aO:m<=6)(C:bJ h a8 b f)(a2:f[m]? =some (U,F::rest)):
  CP 90 #[.agg #[.slice b.a b.n b.cap],Hz l] h fun v I=>∃q s r,v=.returned (.slice q s r)/\rj I h.heap.size (.slice q s r) (Bv (pz f) l m F.2)/\Below h.heap.size h I:=by
 have a0:Below h.heap.size h (h.alloc (.cells #[.slice b.a b.n b.cap] 146)):=tO;have S:gv f m 0 U (F::rest) F:=⟨a2,rfl⟩;have an:Hd (Calls _ _ _ _ _):=ZZ b f m U F.1 F.2 rest a8 (h.alloc (.cells #[.slice b.a b.n b.cap] 146)) (C.below a0).own bs (by omega) a2 (by
  have Y:=(C.below a0).ok m (by omega);rw[(kN.1 a2).2]at Y;exact Y)
 have ax:Hd (aj (h.alloc (.cells #[.slice b.a b.n b.cap] 146)) h.heap.size 146 [.slice b.a b.n b.cap]):=aj.new h _ _;have bb:Hd (BB h (h.alloc (.cells #[.slice b.a b.n b.cap] 146))):=a0
 -- what a page is asked, wherever it lies
 have ai:Hd (∀(g:World) (a n:Nat) (p:dj) (o:List (dj×List ej)) (j:Option Addr) (k:Nat) (d:List ej),BB h g->a<=6->gv f a n p o (⟨j,d.length,k⟩,d)->CP 124 #[.agg #[.int .i64 a,.slice j d.length k]] g fun v I=>∃q s r,v=.returned (.slice q s r)/\rj I g.heap.size (.slice q s r) (fq a d)/\Below g.heap.size g I):=fun g a n p o j k d D bu w=>
  oQ a j d.length k d g rfl (by have:=(w.ok x).1;simp only at this;omega) (by omega) (w.ok x).2.1 (w.sl (C.below D)).1
 have bc:Hd (∀(g:World) (a n:Nat) (p:dj) (o:List (dj×List ej)) (j:Option Addr) (k:Nat) (d:List ej),BB h g->gv f (a+1) n p o (⟨j,d.length,k⟩,d)->CP 33 #[.agg #[.int .i64 ((a:Int)+1),.slice j d.length k],.string ⟨l.toArray⟩] g fun v I=>v=.returned (.int .i64 (pj d l:Int))/\Below g.heap.size g I):=fun g a n p o j k d D w=>by
  have:=UX (a+1) j k d l g (by have:=(w.ok x).1;simp only at this;omega) (w.sl (C.below D)).1;rw[show((a+1:Nat):Int)=(a:Int)+1 by omega]at this;exact this
 have b9:Hd (∀(g:World) (a n:Nat) (p:dj) (o:List (dj×List ej)) (j:Option Addr) (k:Nat) (d:List ej) (T:Nat) (ac:T<d.length),BB h g->a<=6->gv f (a+1) n p o (⟨j,d.length,k⟩,d)->∃(L:Nat) (B:dj) (A:List (dj×List ej)) (t:Option Addr) (u:Nat) (i:List ej),gv f a L B A (⟨t,i.length,u⟩,i)/\yj (pz f) a (Tq d T)=i/\
   CP 125 #[.agg #[.slice b.a b.n b.cap],.agg #[.int .i64 ((a:Int)+1),.slice j d.length k],.int .i64 T] g fun v I=>v=.returned (.agg #[.int .i64 a,.slice t i.length u])/\Below g.heap.size g I):=fun g a n p o j k d T ac D bu w=>by
  obtain⟨B,A,⟨⟨t,c6,u⟩,i⟩,E,V,ab⟩:=w.down x T ac;have aR:=(E.sl (C.below D)).2;simp only at aR V;subst aR;refine⟨_,B,A,t,u,i,E,V,?_⟩;exact gY b f a8 a B A j k d T ac _ g (C.below D) E.lv (by omega) (by have:=(w.ok x).1;simp only at this;omega) (w.sl (C.below D)).1 (by omega) E.pg
 have a6:Hd (∀(a n:Nat) (p:dj) (o:List (dj×List ej)) (a4:dj×List ej),gv f a n p o a4->a4.2.length<=60/\(∀ag∈a4.2,Dq ag)):=fun a n p o a4 w=>⟨(w.ok x).1,(w.ok x).2.1⟩;have aP:=(S.sl C).2;have av:Hd ((Bv (pz f) l m F.2).length<=12000):=by
  have:=AQ x l m F.2 (S.ok x).1 (S.ok x).2.1;unfold Hd;omega
 have c1:(m:Int)<=6:=by omega
 obtain⟨⟨j,c5,k⟩,d⟩:=F;simp only at aP av an⊢;subst aP;have ak:Hd (gv f m 0 U ((⟨j,d.length,k⟩,d)::rest) (⟨j,d.length,k⟩,d)):=S;have bT:(d.length:Int)<=60:=by have:=(S.ok x).1;simp only at this;omega
 clear C S a2 a0;unfold Hz;go_enter Tryz.func90,Tryz.ntmps90;go_wp2_with fail;refine an.o.mono ?_;rintro v e ⟨rfl,Z⟩;have bD:h.heap.size<e.heap.size:=by have:=Z.size;simp at this;omega
 have ao:Hd (Cy h e.heap.size [.slice b.a b.n b.cap] [.int .i64 m,.slice j d.length k] (e.alloc (.cells #[.int .i64 m,.slice j d.length k] 80))):=
  ⟨(bb.o.trans (Z.mono (by simp))).alloc (by omega) _,(ax.o.below ax.o.lt Z).alloc _,aj.new e _ _⟩
 clear Z;go_wp2_with fail;refine(ai.o _ m 0 U _ j k d (by exact ao.o.bel) aO ak.o).mono ?_;rintro v b7 ⟨aA,b3,aC,rfl,aT,aE⟩;have bk:Hd (Cy h e.heap.size [.slice b.a b.n b.cap] [.int .i64 m,.slice j d.length k] b7):=ao.o.next aE;have bf:Hd (rj b7 (e.heap.size+1) (.slice aA b3 aC) (fq m d)):=by unfold Hd;simpa using aT
 clear aT aE;go_wp2
 go_loopw [6,7] (fun bn _ wr=>∃(a n:Nat) (p:dj) (o:List (dj×List ej)) (G:Option Addr) (H:Nat) (c:List ej) (z:List UInt8) (q:Option Addr) (s r:Nat),a<=6/\bn=.slice q s r/\Hd (gv f a n p o (⟨G,c.length,H⟩,c))/\Hd (Cy h e.heap.size [.slice b.a b.n b.cap] [.int .i64 a,.slice G c.length H] wr)/\Hd (rj wr (e.heap.size+1) (.slice q s r) (z++fq a c))/\Hd (Bv (pz f) l m d=z++Bv (pz f) l a c))
  (fun _ _ wr=>match wr.cell? ⟨e.heap.size,0,none⟩with|some (.int _ ag)=>ag.toNat|_=>0)
 case atStart=>exact⟨m,0,U,_,j,k,d,[],aA,b3,aC,aO,rfl,ak,bk,bf,rfl⟩
 case round=>
  obtain⟨a,n,p,o,G,H,c,z,q,s,r,c2,rfl,a7,Q,P,W⟩:=hrel;have J:=Q.o;cases a with
  |zero=>
   have a3:wr.cell? ⟨e.heap.size,0,none⟩=some (.int .i64 0):=J.pg.cell 0 (by simp);clear J;go_wp2;go_ret;refine⟨q,s,r,rfl,?_,Q.o.bel⟩;rw[W.o];exact Hj P.o (fun M ad=>by have:=(P.o.lt M ad).1;omega)
  |succ a=>
   have bp:((a+1:Nat):Int)=(a:Int)+1:=by omega
   have c0:(c.length:Int)<=60:=by have:=(a6.o _ _ _ _ _ a7.o).1;simp only at this;omega
   rw[bp]at J Q;have a3:wr.cell? ⟨e.heap.size,0,none⟩=some (.int .i64 ((a:Int)+1)):=J.pg.cell 0 (by simp);have b6:wr.cell? ⟨e.heap.size,1,none⟩=some (.slice G c.length H):=J.pg.cell 1 (by simp);have bl:Hd (wr.cell? ⟨e.heap.size,0,none⟩=some (.int .i64 ((a:Int)+1))):=a3;have a5:Hd (Calls _ _ _ _ _):=bc.o wr a n p o G H c J.bel a7.o;have bA:=Ky c l;have c3:(a:Int)<=5:=by omega
   by_cases a1:pj c l<c.length
   .have X:Hd (Bv (pz f) l (a+1) c=fq (a+1) c++Bv (pz f) l a (yj (pz f) a (Tq c (pj c l)))):=by unfold Hd;rw[Bv,if_pos a1]
    have ba:Hd (∀(g:World),BB h g->∃(L:Nat) (B:dj) (A:List (dj×List ej)) (t:Option Addr) (u:Nat) (i:List ej),gv f a L B A (⟨t,i.length,u⟩,i)/\yj (pz f) a (Tq c (pj c l))=i/\Calls _ _ _ g _):=fun g D=>b9.o g a n p o G H c (pj c l) a1 D (by omega) a7.o;generalize pj c l=M at*;have c4:((M:Int)==(c.length:Int))=false:=by simp;omega
    have bR:(M:Int)<c.length:=by omega
    have bS:(M:Int)≠c.length:=by omega
    clear J;go_wp2_with (go_at_call 33;refine a5.o.mono ?_;rintro v N ⟨rfl,R⟩;have y:=Cy.next Q.o R;have a3:N.cell? ⟨e.heap.size,0,none⟩=some (.int .i64 ((a:Int)+1)):=y.pg.cell 0 (by simp);have b6:N.cell? ⟨e.heap.size,1,none⟩=some (.slice G c.length H):=y.pg.cell 1 (by simp);have c9:N.cell? ⟨h.heap.size,0,none⟩=some (.slice b.a b.n b.cap):=y.tr.cell 0 (by simp));obtain⟨L,B,A,t,u,i,E,V,ab⟩:=ba.o N y.bel;refine ab.mono ?_;rintro v O ⟨rfl,a9⟩;have K:=y.next a9;have c7:O.cell? ⟨e.heap.size,0,none⟩=some (.int .i64 ((a:Int)+1)):=K.pg.cell 0 (by simp);have c8:O.cell? ⟨e.heap.size,1,none⟩=some (.slice G c.length H):=K.pg.cell 1 (by simp);have bI:O.frozen? ⟨e.heap.size,0,none⟩=false:=K.pg.frozen 0;have bO:O.frozen? ⟨e.heap.size,1,none⟩=false:=K.pg.frozen 1;have bg:Hd (rj O (e.heap.size+1) (.slice q s r) (z++fq (a+1) c)):=lj (lj P.o R) a9;have ap:Hd (Cy h e.heap.size [.slice b.a b.n b.cap] [.int .i64 a,.slice t i.length u] ((O.setCell ⟨e.heap.size,0,none⟩ (.int .i64 a)).setCell ⟨e.heap.size,1,none⟩ (.slice t i.length u))):=K.turn bD _ _;have bh:Hd (rj ((O.setCell ⟨e.heap.size,0,none⟩ (.int .i64 a)).setCell ⟨e.heap.size,1,none⟩ (.slice t i.length u)) (e.heap.size+1) (.slice q s r) (z++fq (a+1) c)):=rj.turn bg.o K.pg (by decide) _ _;have am:Hd (gv f a L B A (⟨t,i.length,u⟩,i)):=E;have ah:Hd (Bv (pz f) l m d=(z++fq (a+1) c)++Bv (pz f) l a i):=by
     unfold Hd;rw[W.o,X.o,V,NN]
    have bd:Hd ((z++fq (a+1) c).length+(fq a i).length<=140737488355328):=by
     have Y:=av.o;rw[ah.o,XM]at Y;have bP:=Uz a i (a6.o _ _ _ _ _ E).2 (a6.o _ _ _ _ _ E).1;unfold Hd;omega
    clear K y R a9 V E ab X W P Q;go_wp2_with fail;refine(ai.o _ a L B A t u i (by exact ap.o.bel) (by omega) am.o).mono ?_;rintro v ae ⟨bm,b4,bo,rfl,b0,aa⟩;obtain⟨bB,aS,bw⟩:=rj.sl b0;have al:Hd (rj ae (e.heap.size+1) (.slice q s r) (z++fq (a+1) c)):=lj bh.o aa;have ar:Hd (Cy h e.heap.size [.slice b.a b.n b.cap] [.int .i64 a,.slice t i.length u] ae):=ap.o.next aa;have be:Hd (b4=(fq a i).length):=aS;have b8:Hd (e.heap.size+1<=ae.heap.size):=by have:=ar.o.pg.lt;unfold Hd;omega
    clear b0 aa aS;go_wp2_with (at_builtin;refine Hq (by rfl) (.tmp 27) (.tmp 29) (by rfl) (e.heap.size+1) _ (z++fq (a+1) c) (by rfl) al.o bm b4 bo (fq a i) (by rfl) be.o bB bw bd.o b8.o ?_;intro aB b5 aD af bv b1 bC aI br;have bi:Hd (rj af (e.heap.size+1) (.slice aB b5 aD) _):=b1;have au:Hd (Cy h _ _ _ af):=Cy.frame ar.o al.o (by omega) aI;clear bv b1 bC aI br);have bE:af.cell? ⟨e.heap.size,0,none⟩=some (.int .i64 a):=au.o.pg.cell 0 (by simp);refine⟨⟨a,L,B,A,t,u,i,z++fq (a+1) c,aB,b5,aD,by omega,rfl,am,au,bi,ah⟩,?_⟩;rw[bE,bl.o];simp
   .have b2:pj c l=c.length:=by omega
    have X:Hd (Bv (pz f) l (a+1) c=fq (a+1) c):=by unfold Hd;rw[Bv,if_neg a1,XN]
    rw[b2]at a5;clear J b2 a1 bA;go_wp2_with (go_at_call 33;refine a5.o.mono ?_;rintro v N ⟨rfl,R⟩;have y:=Cy.next Q.o R;have a3:N.cell? ⟨e.heap.size,0,none⟩=some (.int .i64 ((a:Int)+1)):=y.pg.cell 0 (by simp);have b6:N.cell? ⟨e.heap.size,1,none⟩=some (.slice G c.length H):=y.pg.cell 1 (by simp));go_ret;refine⟨q,s,r,rfl,?_,y.bel⟩;rw[W.o,X.o];exact Hj (lj P.o R) (fun M ad=>by have:=(P.o.lt M ad).1;omega)
def Dy(a:List ej)(b c:List UInt8):List UInt8:=Gq (Rj a) b c (dq a) (Wz a)
def az(b:Nat)(a:Int):Bool:=decide (a<0)||decide ((b:Int)<=a)
def xx(c:Nat)(a:Int)(b:List UInt8):Nat:=if az c a=true then 4 else if Zj b=false then 1 else 0
def Qx(a b:List UInt8):Bool:=Zj a&&Zj b&&Op.bytesLess a b
def yx(c:Nat)(a:Int)(b d:List UInt8):Nat:=if az c a=true then 4 else if Qx b d=false then 1 else 0
def qy(b:List (List ej))(a:Int):List ej:=b.getD a.toNat []
def jv(c:List (List ej))(b:Int)(a:List UInt8):List UInt8:=if xx c.length b a=0 then Dy (qy c b) a a else[]
def Xz(c:List (List ej))(a:Int)(b d:List UInt8):List UInt8:=if yx c.length a b d=0 then Dy (qy c a) b d else[]
def Qv(a:List ej):Prop:=Kz a/\(∀b∈a,Dq b)/\a.length<=60
theorem yG(a:List ej)(c:Qv a)(b:List UInt8):Bv (Rj a) b (dq a) (Wz a)=Dy a b b:=by
 unfold Dy;have d:=yw a c.1 c.2.1 c.2.2;refine NZ d b (fun g f=>rx g b f) _ _ ?_;have e:Wz a=yj (Rj a) (dq a) 0:=by
  unfold Wz yj dq;cases ((Rj a)[(Rj a).length - 1]?.getD [])<;>rfl
 rw[e];exact(Gz d _ _).2.2
theorem IV(h:Nat)(l b o:dj)(m:List ej)(g:List (dj×List ej))(p:List (List UInt8))(d:Int)(k:Value)(c:World)(e:Yj c h 0 l b o m g p)(t:g.length<=40)(f:az g.length d=true):
  CP 47 #[.pointer (some ⟨h,0,none⟩),.int .i64 d,k] c fun n q=>n=.returned (.tuple #[.slice none 0 0,.int .i64 4])/\Below c.heap.size c q:=by
 have i:=(vj (a:=b.a) (n':=b.n) (cap:=b.cap) e.hpast).1;have r:c.cell? ⟨h,1,none⟩=some (.slice b.a b.n b.cap):=aj.cell e.row 1 (by simp);have u:(b.n:Int)<=40:=by omega
 by_cases j:d<0
 .clear i e f;go_enter Tryz.func47,Tryz.ntmps47;go_wp2
  go_ret2
  exact⟨rfl,VM _ _⟩
 .have s:(b.n:Int)<=d:=by
   unfold az at f;simp[j]at f;omega
  clear i e f;go_enter Tryz.func47,Tryz.ntmps47;go_wp2
  go_ret2
  exact⟨rfl,VM _ _⟩
theorem pQ{d:Nat}{a:Int}(b:az d a=false):∃c:Nat,a=c/\c<d:=by
 unfold az at b;simp at b;exact⟨a.toNat,by omega,by omega⟩
theorem gK(j:Nat)(q b t:dj)(r:List ej)(i:List (dj×List ej))(u:List (List UInt8))(g:Nat)(d:dj)(h:List UInt8)(c:World)(e:Yj c j 0 q b t r i u)(B:i.length<=40)(z:g<i.length)(f:BS c d h)(n:h.length<=maxLen)(m:Zj h=false):
  CP 47 #[.pointer (some ⟨j,0,none⟩),.int .i64 g,d.val] c fun s v=>s=.returned (.tuple #[.slice none 0 0,.int .i64 1])/\Below c.heap.size c v:=by
 have o:=(vj (a:=b.a) (n':=b.n) (cap:=b.cap) e.hpast).1;have x:c.cell? ⟨j,1,none⟩=some (.slice b.a b.n b.cap):=aj.cell e.row 1 (by simp);have C:(b.n:Int)<=40:=by omega
 have A:(g:Int)<b.n:=by omega
 have k:Hd (Calls _ _ _ _ _):=yq d.a d.n d.cap c (by rw[f.n];exact n);have l:(decide (1<=d.n)&&decide (d.n<=12))=false:=by rw[f.n];exact m
 rw[l]at k;clear o e l f;unfold dj.val;go_enter Tryz.func47,Tryz.ntmps47;go_wp2_with (go_at_call 31;refine k.o.mono ?_;rintro y w ⟨rfl,p⟩;obtain rfl:c=w:=p.symm)
 go_ret2
 exact⟨rfl,VM _ _⟩
theorem CW(u:Nat)(a7 g ad:dj)(a8:List ej)(b:List (dj×List ej))(ae:List (List UInt8))(a:Nat)(d:dj)(f:List UInt8)(c:World)(m:Yj c u 0 a7 g ad a8 b ae)(ak:b.length<=40)(r:a<b.length)(o:Qv b[a].2)(j:BS c d f)(p:Zj f=true):
  CP 47 #[.pointer (some ⟨u,0,none⟩),.int .i64 a,d.val] c fun ac R=>∃w Q x,ac=.returned (.tuple #[.slice w Q x,.int .i64 0])/\rj R c.heap.size (.slice w Q x) (Dy b[a].2 f f)/\Below c.heap.size c R:=by
 obtain⟨N,a2⟩:=jj.ofOwn (s:=g) m.hpast;have W:c.cell? ⟨u,1,none⟩=some (.slice g.a g.n g.cap):=aj.cell m.row 1 (by simp);obtain⟨V,a9,M,ah,A⟩:=N a (by simpa using r);have ag:c.cell? ⟨V,a9+a,none⟩=some (.slice b[a].1.a b[a].1.n b[a].1.cap):=by rw[A];simp[dj.val]
 have a3:(g.n:Int)<=40:=by omega
 have a1:(a:Int)<g.n:=by omega
 have a0:1<=f.length/\f.length<=12:=by unfold Zj at p;simpa using p
 have v:Hd (Calls _ _ _ _ _):=yq d.a d.n d.cap c (by rw[j.n];unfold maxLen;omega);have D:(decide (1<=d.n)&&decide (d.n<=12))=true:=by rw[j.n];exact p
 rw[D]at v;obtain⟨C,B⟩:=jj.ofOwn (s:=b[a].1) (m.hpok b[a] (bN r));have T:Hd (Calls _ _ _ _ _):=SQ b[a].1 b[a].2 c B (by have:=o.2.2;omega) o.2.1 C;have S:Hd (∀k,BB c k->(convert 38 9 (.slice d.a d.n d.cap)).run Tryz.prog k=.ok (.string ⟨f.toArray⟩) k):=fun k Y=>wj (P:=Tryz.prog) k 38 9 5 d.a d.n d.cap f Tryz.underlying38 Tryz.underlying5 Tryz.underlying9 j.n (j.below Y).sl j.nil;have i:Hd (Qv b[a].2):=o;generalize b[a]=an at*;obtain⟨al,ao,am⟩:=g;simp only at M a3 a1 W;subst M;clear a2 m D j N A C B o p a0;unfold dj.val;go_enter Tryz.func47,Tryz.ntmps47;go_wp2_with (go_at_call 31;refine v.o.mono ?_;rintro y h ⟨rfl,O⟩;obtain rfl:c=h:=O.symm;clear O);refine T.o.mono ?_;rintro y h ⟨e,rfl,a4,J,L,n,q⟩;obtain⟨a5,af,aa,ab,rest,E,F,G,H,I,_,_⟩:=TQ n i.o.2.1 (by have:=i.o.2.2;omega);have z:Below h.heap.size h (h.alloc (.cells #[.slice e.a e.n e.cap] 146)):=tO;have ai:=S.o (h.alloc (.cells #[.slice e.a e.n e.cap] 146)) (q.alloc q.size _);have t:Hd (Calls _ _ _ _ _):=fK e a4 c.heap.size a5 af (aa,ab) rest f (h.alloc (.cells #[.slice e.a e.n e.cap] 146)) (by rw[n];exact yw _ i.o.1 i.o.2.1 i.o.2.2) E F (bJ.below ⟨J,L⟩ z) G;rw[n,<-H,<-I,yG _ i.o]at t;unfold Hz at t;have l:Hd (BB c h):=q;clear J L n q E F G H I z;go_wp2_with fail;refine t.o.mono ?_;rintro y ap ⟨U,a6,X,rfl,K,Z⟩;go_wp2
 go_ret2
 refine⟨U,a6,X,rfl,Hj K (fun a r=>by have:=(K.lt a r).1;have:=l.o.size;simp at*;omega),(l.o.alloc l.o.size _).trans (Z.mono (by have:=l.o.size;simp;omega))⟩
theorem AJ(a:List (List (List ej)))(n:List (List Nd))(r:yz a n)(w:Wx a)(t u:dj)(d e:List UInt8):∀(b c:Nat) (p:List Nd) (i:Nd) (h:dj) (m:List UInt8) (g:Nat) (f:World),n[b]? =some p->p[c]? =some i->lw f g n->Ik f g t d->Ik f g u e->g<=f.heap.size->rj f g h.val m->m.length+(Gq a d e b (yj a b c)).length<=140737488355328->
  CP 126 #[h.val,.pointer (some ⟨i.b,0,none⟩),t.val,u.val] f fun z W=>∃P:dj,z=.returned P.val/\rj W g P.val (m++Gq a d e b (yj a b c))/\bj (fun s=>h.val.ownBlock=some s) f W/\(∀s,P.val.ownBlock=some s->s<f.heap.size->h.val.ownBlock=some s)
 |0,c,p,i,h,m,g,f,k,l,G,H,I,J,L,a8=>by
  obtain⟨A,B,_⟩:=r.node k l;obtain⟨F,M,_⟩:=Gz w 0 c;have K:=r.low' k l;have E:(Gj 0 (yj a 0 c)).length<=6000:=by
   have:=Uz 0 _ M F;simp only[fq,uN]at this;omega
  have a4:(Gq a d e 0 (yj a 0 c)).length=2+(Gj 0 (yj a 0 c)).length:=by
   simp only[Gq,fq,uN];omega
  have j:=YX n t u d e i h m (Gj 0 (yj a 0 c)) [] [] g f G ⟨p,mN k,mN l⟩ H I J L (by rw[A,B,wJ]) E (by rw[K];rfl) (by simp) (fun y _ o _ j=>absurd j (wN _)) rfl (by simp;omega) (fun x _ U=>absurd U (wN _));rw[List.flatten_nil,XN]at j;exact j
 |b+1,c,p,i,h,m,g,f,k,l,G,H,I,J,L,a8=>by
  obtain⟨A,B,_⟩:=r.node k l;obtain⟨F,M,_⟩:=Gz w (b+1) c;obtain⟨K,S⟩:=r.down w k l;have E:(Gj (b+1) (yj a (b+1) c)).length<=6000:=by
   have:=Uz (b+1) _ M F;simp only[fq,uN]at this;omega
  have R:fz a d e b (yj a (b+1) c) (yj a (b+1) c).length=((dZ (yj a (b+1) c) d e (yj a (b+1) c).length).map (fun o=>Gq a d e b (yj a b (Tq (yj a (b+1) c) o)))).flatten:=by
   rw[xY];rfl
  have a4:(Gq a d e (b+1) (yj a (b+1) c)).length=2+(Gj (b+1) (yj a (b+1) c)).length+(fz a d e b (yj a (b+1) c) (yj a (b+1) c).length).length:=by
   rw[Iw];simp only[fq,XM,uN];omega
  have j:=YX n t u d e i h m (Gj (b+1) (yj a (b+1) c)) (yj a (b+1) c) ((dZ (yj a (b+1) c) d e (yj a (b+1) c).length).map (fun o=>Gq a d e b (yj a b (Tq (yj a (b+1) c) o)))) g f G ⟨p,mN k,mN l⟩ H I J L (by rw[A,B,wJ]) E K.symm (by omega)
   (fun y a2 o a5 a6=>by
    obtain⟨O,q,C,D,v,Q⟩:=S o a6;have N:=a2.ok O (mN C) q (mN D);rw[UM a5]at v;have Y:=lN v;rw[Y];refine⟨q.la,N.row.cellP 0 _ (by simp[CZ]),N.row.lt,?_⟩;have:=N.la;rw[Q]at this;exact this)
   (by rw[XX];simp) (by rw[<-R];omega)
   (fun x U aa ac ab y Z a0 a1 a3 a9 T=>by
    have V:x<(dZ (yj a (b+1) c) d e (yj a (b+1) c).length).length:=by simpa using aa
    have a7:=fM (bN V);obtain⟨O,q,C,D,v,Q⟩:=S _ a7;have X:(Qz (yj a (b+1) c) d e i.bl (yj a (b+1) c).length)[x]=q.b:=by
     have z:(Qz (yj a (b+1) c) d e i.bl (yj a (b+1) c).length)[x]? =some q.b:=by
      rw[XX,zN,UM V];simp only[GN,iaj];rw[v];rfl
     exact(kN.1 z).2
    rw[X];simp only[Paj]at T⊢;exact AJ a n r w t u d e b _ O q ac ab g y C D Z a0 a1 a3 a9 T)
  rw[<-R]at j;rw[Iw,<-NN];exact j
theorem yz.root{a:List ej}{c:List (List Nd)}(h:yz (Rj a) c){b:Nat}(i:c.length=b+1)(d e:List UInt8):Dy a d e=Gq (Rj a) d e b (yj (Rj a) b 0):=by
 have f:(Rj a).length=b+1:=by
  have:=congrArg List.length h.its;simp only[FN]at this;omega
 have g:Wz a=yj (Rj a) b 0:=by
  unfold Wz yj;rw[f,show b+1 - 1=b by omega];cases ((Rj a)[b]?.getD [])<;>rfl
 unfold Dy;rw[g,show dq a=b by unfold dq;omega]
theorem OZ(e:List ej)(l:Qv e)(d:List (List Nd))(n:yz (Rj e) d)(b:Nat)(g:Nd)(x:d.length=b+1)(A:d[b]? =some [g])(p q:dj)(f h:List UInt8)(a:World)(j:∀o∈d,∀r∈o,uq a r)(k:BS a p f)(m:BS a q h):
  CP 92 #[.pointer (some ⟨g.b,0,none⟩),p.val,q.val] a fun s u=>∃t:dj,s=.returned t.val/\rj u a.heap.size t.val (Dy e f h)/\Below a.heap.size a u:=by
 have c:=yw e l.1 l.2.1 l.2.2;have C:b<=6:=by
  have:=congrArg List.length n.its;simp only[FN]at this;have:=c.len;omega
 have i:Hd (Calls _ _ _ _ _):=AJ (Rj e) d n c p q f h b 0 [g] g ⟨none,0,0⟩ [] a.heap.size a A rfl ⟨j,fun o y r B=>(j o y r B).lt⟩ ⟨k,k.lt⟩ ⟨m,m.lt⟩ (TM _) (iN _ _ _ _) (by
  have:=OJ c f h b C _ (Gz c b 0).1 (Gz c b 0).2.1;simp;omega)
 rw[ON,<-n.root x]at i;unfold dj.val at i⊢;clear j k m c;go_enter Tryz.func92,Tryz.ntmps92;go_wp2_with (go_at_call 126;refine i.o.mono ?_;rintro s G ⟨D,rfl,z,v,E⟩);go_ret;exact⟨D,rfl,z,v.below (TM _) (fun F w=>by cases w)⟩
theorem zG(d:List ej)(n:Qv d)(b:List (List Nd))(o:yz (Rj d) b)(h:Nat)(g:Nd)(q:b.length=h+1)(s:b[h]? =some [g])(e:dj)(c:List UInt8)(a:World)(k:∀t∈b,∀v∈t,uq a v)(f:BS a e c):
  CP 89 #[.pointer (some ⟨g.b,0,none⟩),e.val] a fun j m=>∃l:dj,j=.returned l.val/\rj m a.heap.size l.val (Dy d c c)/\Below a.heap.size a m:=by
 have i:Hd (Calls _ _ _ _ _):=OZ d n b o h g q s e e c c a k f f;unfold dj.val at i⊢;clear k f;go_enter Tryz.func89,Tryz.ntmps89;go_wp2_with (go_at_call 92;refine i.o.mono ?_;rintro j w ⟨u,rfl,r,p⟩);go_ret;exact⟨u,rfl,r,p⟩
def BQ:ej:=⟨[],[],0⟩
def Ry(b:List ej)(c e:List UInt8)(d:Nat):List ej:=(List.range d).flatMap (fun a=>if gq b a c e=true then[b.getD a BQ]else[])
theorem kX(b:List ej)(c d:List UInt8)(a:Nat)(e:gq b a c d=true):Ry b c d (a+1)=Ry b c d a++[b.getD a BQ]:=by
 unfold Ry;rw[uaj,KN];simp[e]
theorem JV(c:List ej)(a d:List UInt8)(b:Nat)(e:gq c b a d=false):Ry c a d (b+1)=Ry c a d b:=by
 unfold Ry;rw[uaj,KN];simp[e]
def Jv(g:List ej->List UInt8->Option (List ej×List UInt8))(e:Nat)(b:List ej×List UInt8)(h:ej):Option (List ej×List UInt8):=
 match Wq (some b.2) h.more with
 |none=>none
 |some ((d,c),f)=>if d=e then(g c f).map (fun a=>(b.1++a.1,a.2))else none
def Kq(c e:List UInt8):Nat->List ej->List UInt8->Option (List ej×List UInt8)
 |0,a,b=>some (a,b)
 |d+1,a,b=>(Ry a c e a.length).foldlM (Jv (Kq c e d) d) ([],b)
def mw(c:List UInt8):Nat->List ej->List UInt8->Option ((Nat×List ej)×List UInt8)
 |0,a,b=>some ((0,a),b)
 |d+1,a,b=>if pj a c<a.length then(match Wq (some b) (a.getD (pj a c) BQ).more with
  |none=>none
  |some ((f,e),g)=>if f=d then mw c d e g else none)else some ((d+1,a),b)
def WU(b:List UInt8):Option ((Nat×List ej)×List UInt8)->Option (Option (List UInt8))
 |none=>none
 |some ((c,a),d)=>if d=[]then some (if c=0 then(a.find? (fun e=>e.key==b)).map (·.more)else none)else none
def nw(f a d:List UInt8):Option (Option (List UInt8)):=
 match Wq (some d) f with
 |none=>none
 |some ((c,b),e)=>WU a (mw a c b e)
def yv(b c:List UInt8)(a:ej):Bool:= !(Op.bytesLess a.key b)&&Op.bytesLess a.key c
def oJ(i a b f:List UInt8):Option (List ej):=
 match Wq (some f) i with
 |none=>none
 |some ((e,d),g)=>match Kq a b e d g with
  |none=>none
  |some (c,h)=>if h=[]then some (c.filter (yv a b))else none
structure Hx(lv:Nat)(its:List ej):Prop where
 le6:lv<=6
 len:its.length<=60
 rise:Kz its
 key:∀x∈its,1<=x.key.length/\x.key.length<=12
 low:lv=0->∀x∈its,x.more.length<=12
 high:lv≠0->∀x∈its,x.more.length=8
theorem ky{a:Nat}{c:Option (List UInt8)}{f:List UInt8}(d:mj a c=some f):(oq a c).length=a:=by
 cases c with
 |none=>cases d
 |some b=>
  have e:(if a<=b.length then some (b.drop a)else none)=some f:=d;show(if a<=b.length then b.take a else[]).length=a
  split at e
  .rename_i g;rw[if_pos g,aN];omega
  .cases e
theorem AG{b:List ej}{i:ej}(e:Kz b)(l:Ov b i.key=true):Kz (b++[i]):=by
 unfold Kz at*;rw[bbj];refine⟨e,List.pairwise_singleton _ _,fun j f k g=>?_⟩;simp only[eN]at g;subst g;obtain⟨d,a,rfl⟩:∃d a,b=d++[a]:=by
  rcases List.eq_nil_or_concat b with rfl|⟨d,a,rfl⟩
  .cases f
  .exact⟨d,a,by simp⟩
 have h:Op.bytesLess a.key k.key=true:=by simpa[Ov]using l
 rcases fN.1 f with c|c
 .have:=(bbj.1 e).2.2 j c a (by simp);exact Yw this h
 .simp only[eN]at c;subst c;exact h
theorem fZ(d:Nat):∀(l:Nat) (h:List ej) (r:Option (List UInt8)) (g:List ej),sq d l h r=some g->Kz h->(∀c∈h,(1<=c.key.length/\c.key.length<=12)/\(d=0->c.more.length<=12)/\(d≠0->c.more.length=8))->
  Kz g/\g.length=h.length+l/\∀c∈g,(1<=c.key.length/\c.key.length<=12)/\(d=0->c.more.length<=12)/\(d≠0->c.more.length=8)
 |0,h,r,g,b,m,n=>by
  unfold sq at b
  split at b
  .cases b;exact⟨m,by simp,n⟩
  .cases b
 |l+1,h,none,g,b,m,n=>by rw[Lx]at b;cases b
 |l+1,h,some a,g,b,m,n=>by
  unfold sq at b
  split at b
  case isFalse=>cases b
  case isTrue q=>
   have e:∃j,Tv d (some a)=some j:=by
    cases f:Tv d (some a)with
    |none=>rw[f,Lx]at b;cases b
    |some j=>exact⟨j,rfl⟩
   obtain⟨j,e⟩:=e;have o:∃s,iv (some a)=some s:=by
    cases f:iv (some a)with
    |none=>unfold Tv at e;rw[f]at e;split at e<;>cases e
    |some j=>exact⟨j,rfl⟩
   obtain⟨s,o⟩:=o;have w:(vx (some a)).length=Fj (some a):=by unfold vx;unfold iv at o;exact ky o
   unfold lx at q;simp only[Daj,decide_eq_true_eq,Bool.not_eq_true',Bool.and_eq_false_iff]at q;obtain⟨⟨⟨k,u⟩,v⟩,t⟩:=q;have:=fZ d l _ _ g b (AG m t) (fun c i=>by
    rcases fN.1 i with i|i
    .exact n c i
    .simp only[eN]at i;subst i;refine⟨by show 1<=(vx (some a)).length/\(vx (some a)).length<=12;omega,fun f=>?_,fun f=>?_⟩
     .subst f;show(Bx 0 (some a)).length<=12;have p:Bx 0 (some a)=oq (Fj (iv (some a))) (mj 1 (iv (some a))):=by unfold Bx;rw[if_pos rfl]
      rw[p];have:=nJ (Fj (iv (some a))) (mj 1 (iv (some a)));rcases k with k|k
      .simp at k
      .have:¬12<Fj (iv (some a)):=by simpa using k
       omega
     .show(Bx d (some a)).length=8;have p:Bx d (some a)=oq 8 (iv (some a)):=by unfold Bx;rw[if_neg f]
      rw[p];unfold Tv at e;rw[if_neg f]at e;exact ky e)
   refine⟨this.1,by rw[this.2.1];simp;omega,this.2.2⟩
theorem iL{e:List UInt8}{h:Nat}{g:List ej}(a:Xj e=some (h,g)):Hx h g:=by
 unfold Xj at a
 split at a
 case isFalse=>cases a
 case isTrue k=>
  cases b:sq (Fj (some e)) (Fj (mj 1 (some e))) [] (mj 1 (mj 1 (some e)))with
  |none=>rw[b]at a;cases a
  |some l=>
   rw[b]at a;simp only[GN,yN,YN]at a;obtain⟨rfl,rfl⟩:=a;obtain⟨i,j,f⟩:=fZ _ _ [] _ l b List.Pairwise.nil (fun d c=>by cases c);exact⟨k.1,by rw[j];simp;omega,i,fun d c=>(f d c).1,fun b d c=>(f d c).2.1 b,fun b d c=>(f d c).2.2 b⟩
theorem ry{f:Option (List UInt8)}{e:List UInt8}{d:Nat}{c:List ej}{g:List UInt8}(a:Wq f e=some ((d,c),g)):Hx d c:=by
 unfold Wq at a
 split at a
 .cases a
 .split at a
  .cases a
  .rename_i h b
   split at a
   .simp only[yN,YN]at a;rw[a.1]at b;exact iL b
   .cases a
theorem BG{a:List ej}(c:Kz a)(b:List UInt8):Ry a b b a.length=if pj a b<a.length then[a.getD (pj a b) BQ]else[]:=by
 unfold Ry;rw[PJ _ (pj a b) a.length]
 .split
  .rename_i e
   rw[zJ c b _ e (rx a b c)];simp
  .rfl
 .intro g d f;rw[zJ c b g d (rx a b c)];simp[f]
theorem iK(b:List UInt8):∀(e:Nat) (a:List ej) (d:List UInt8),Kz a->Kq b b e a d=(mw b e a d).map (fun c=>(if c.1.1=0 then c.1.2 else[],c.2))
 |0,a,d,_=>rfl
 |e+1,a,d,k=>by
  unfold Kq mw;rw[BG k]
  split
  .simp only[List.foldlM_cons,List.foldlM_nil];unfold Jv;cases j:Wq (some d) (a.getD (pj a b) BQ).more with
   |none=>rfl
   |some c=>
    obtain⟨⟨f,h⟩,i⟩:=c;simp only;by_cases g:f=e
    .subst g;simp only[if_true];rw[iK b f h i (ry j).rise];cases mw b f h i<;>simp
    .simp only[if_neg g];rfl
  .simp
end Go.Proofs.YtekegfbjbainhaaGreat
