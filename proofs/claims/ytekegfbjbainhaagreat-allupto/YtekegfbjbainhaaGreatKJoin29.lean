import Derived.Test.YtekegfbjbainhaaGreatKJoin28
import Derived.Deep.CutBlock
import Derived.Deep.DeepCutAuto
import Derived.Deep.RegionHeld3
set_option maxRecDepth 100000
set_option maxHeartbeats 4000000
set_option linter.unusedVariables false
set_option linter.unusedSimpArgs false
namespace Go.Proofs.YtekegfbjbainhaaGreat
open Go.RowKit
section
attribute [local go_sem↓] Go.wp_at_zero Go.wp_at_succ
theorem kY(b:List (dj×dj)):∀(a:Nat) (c:a<b.length),(zq b)[a*2]? =some b[a].1/\(zq b)[a*2+1]? =some b[a].2:=by
 induction b with
 |nil=>intro a c;simp at c
 |cons e b d=>
  intro a c;cases a with
  |zero=>simp[zq]
  |succ a=>
   have:=d a (by simpa using c);simp only[zq,JN]at this⊢;rw[show(a+1)*2=a*2+1+1 by omega,show a*2+1+1+1=(a*2+1)+1+1 by omega];simpa using this
theorem Jw{e:World}{f:Option Addr}{c:List (dj×dj)}(h:jj e f (xz c))(b:Nat)(o:b<c.length):∃a d,f=some ⟨a,d,none⟩/\a<e.heap.size/\e.cell? ⟨a,d+b*2,none⟩=some c[b].1.val/\e.cell? ⟨a,d+b*2+1,none⟩=some c[b].2.val:=by
 have g:=fun k (p:k<2)=>tw YU 2 c (fun _ _=>rfl) b o k p;obtain⟨a,d,i,n,l⟩:=jj.at h (g 0 (by omega));obtain⟨q,r,j,_,m⟩:=jj.at h (g 1 (by omega));rw[i]at j;cases j;exact⟨a,d,i,n,l,by rw[paj];exact m⟩
theorem Tryz.infoEntBk:(Tryz.prog.info? 65).map (fun a=>(a.zero,a.size,a.bytes))=some (some (.agg #[.slice none 0 0,.slice none 0 0,.slice none 0 0,.slice none 0 0,.int .i64 0]),5,104):=by kernel_rfl
def QV(o:World)(g:Nat)(s p k l n:dj)(i:List Yq)(e:List Tw)(m:List dj)(r:Nat)(q:Ending)(f:World):Prop:=q=.returned (.tuple #[])/\∃(b:dj) (c:List Yq) (d:dj) (h:Tw),aj f g 34 [s.val,b.val,p.val,d.val]/\Mz f b c/\c.length=i.length+r*2/\Ox f d (e++[h])/\bj (fun a=>a=g\/Kj k i a\/l.val.ownBlock=some a\/(∃j∈m,j.val.ownBlock=some a)\/n.val.ownBlock=some a) o f/\
 (∀a,Kj b c a\/ly d (e++[h]) a->a<o.heap.size->Kj k i a\/ly l e a\/(∃j∈m,j.val.ownBlock=some a)\/n.val.ownBlock=some a)/\(∀a,ly d (e++[h]) a->¬Kj b c a/\a≠g)/\(∀a,Kj b c a->a≠g)
theorem mM{I wc k B:World}{j N C l:Nat}{O K h J A y:dj}{P F:List Yq}{x:Yq}{g:List Tw}{a5:List Value}{D:List dj}{a0:List (List UInt8)}{n:Option Addr}{r o:Nat}(m:uZ I j J P h g D a0 C)(i:xk I j O K h P J g y N a5 D a0 C wc A F (N*2))(U:aj B j 34 [O.val,A.val,K.val,h.val])(a1:Mz k A F)(E:Ox k h g)(T:Sv k (bz l) 2 x)(S:Rw k g.length l)
  (L:∀a,cy x a->y.val.ownBlock=some a\/wc.heap.size+1<a)(a7:l=wc.heap.size+1)(R:bj (fun a=>y.val.ownBlock=some a) wc k)(Y:∀a,y.val.ownBlock=some a->C<=a/\a<I.heap.size)(a4:∀f (a6:f<D.length),∀a,D[f].val.ownBlock=some a->y.val.ownBlock≠some a)
  (X:B.ownsRow 0 65 5 (.slice n r o) (g.length+1) (ux 0 (g.map (·.r))++qz x g.length))(t:bj (fun a=>h.val.ownBlock=some a) k B)(a2:(Value.slice n r o).ownBlock=h.val.ownBlock\/(Value.slice n r o).ownBlock=some k.heap.size):
  QV I j O K J h y P g D N (.returned (.tuple #[])) (B.setCell ⟨j,3,none⟩ (.slice n r o)):=by
 have u:bj (fun a=>a=j) B (B.setCell ⟨j,3,none⟩ (.slice n r o)):=(bj.refl (fun a=>a=j) _).setCell (p:=⟨j,3,none⟩) rfl _;have ab:=i.fr.size;have ac:=R.size;have a8:=m.bb;have a9:=m.wl;have M:∀a,ly h g a->¬Kj A F a:=fun a b s=>by
  have q:=m.e0 a b;rcases i.old a s (by omega)with c|⟨f,v,_,c⟩
  .exact q.2.2 c
  .have:=(m.fo f v a c).1;omega
 have a3:∀a,Kj A F a->¬y.val.ownBlock=some a:=fun a b d=>by
  have q:=Y a d;rcases i.old a b q.2 with c|⟨f,v,_,c⟩
  .have:=(m.b0 a c).1;omega
  .exact a4 f v a c d
 have W:∀a,h.val.ownBlock=some a->a<C:=fun a b=>(m.e0 a (SM b)).1;have H:∀a,cy x a\/a=l->C<=a/\a<k.heap.size:=fun a b=>by
  rcases b with b|b
  .refine⟨?_,T.lt a b⟩;rcases L a b with c|c
   .exact(Y a c).1
   .omega
  .rw[b];exact⟨by omega,S.lt⟩
 have G:∀a,(Value.slice n r o).ownBlock=some a->h.val.ownBlock=some a\/a=k.heap.size:=fun a b=>by
  rcases a2 with d|d
  .exact SM (by rw[<-d];exact b)
  .rw[d]at b;exact RM (lN b).symm
 have aa:=t.size;refine⟨rfl,A,F,⟨n,r,o⟩,⟨x,l⟩,by simpa[dj.val]using U.set 3 (.slice n r o),?_,i.len,⟨?_,?_,?_⟩,?_,?_,?_,i.bw⟩
 .exact(a1.frame t (fun a b d=>M a (SM d) b)).frame u (fun a b d=>i.bw a b d)
 .rw[XM,VN,rN,ZM,dN,xJ,sN,FN];exact ij X u (fun a b d=>xj X U (by decide) (by rw[<-d];exact b))
 .intro f v;by_cases w:f<g.length
  .rw[kaj w];have V:∀a,ML g[f] a->¬h.val.ownBlock=some a:=fun a b d=>E.apart _ (bN w) a b d;have Z:∀a,ML g[f] a->¬a=j:=fun a b d=>(m.e0 a (RM ⟨_,bN w,b⟩)).2.1 d;exact⟨((E.ok f w).1.frame t (fun a b=>V a (SM b))).frame u (fun a b=>Z a (SM b)),((E.ok f w).2.frame t (V _ (RM rfl))).frame u (Z _ (RM rfl))⟩
  .have d:f=g.length:=by simp at v;omega
   subst d;rw[haj (TM _)];simp only[Aaj,List.getElem_singleton];have q:∀a,cy x a\/a=l->¬h.val.ownBlock=some a:=fun a b d=>by have:=H a b;have:=W a d;omega
   have Q:∀a,cy x a\/a=l->¬a=j:=fun a b d=>by have:=H a b;omega
   exact⟨(T.frame t (fun a b=>q a (SM b))).frame u (fun a b=>Q a (SM b)),(S.frame t (q _ (RM rfl))).frame u (Q _ (RM rfl))⟩
 .intro z e a b d;rcases fN.1 e with e|e
  .rcases G a d with c|c
   .exact E.apart z e a b c
   .have:=E.lt a (RM ⟨z,e,b⟩);omega
  .simp only[eN]at e;subst e;have q:=H a b;rcases G a d with c|c
   .have:=W a c;omega
   .omega
 .refine(((i.fr.mono (fun a _ b=>?_)).inside R (fun a _ b=>RM (RM (RM (RM b))))).inside t (fun a _ b=>RM (RM (SM b)))).inside u (fun a _ b=>SM b);rcases b with b|b|b
  .exact SM b
  .exact RM (SM b)
  .exact RM (RM (RM (SM b)))
 .intro a b w;rcases b with b|b|⟨z,e,b⟩
  .rcases i.old a b w with c|⟨f,v,_,c⟩
   .exact SM c
   .exact RM (RM (SM ⟨_,bN v,c⟩))
  .rcases G a b with c|c
   .exact RM (SM (SM c))
   .omega
  .rcases fN.1 e with e|e
   .exact RM (SM (RM ⟨z,e,b⟩))
   .simp only[eN]at e;subst e;rcases b with b|b
    .rcases L a b with c|c
     .exact RM (RM (RM c))
     .omega
    .have:a=l:=b;omega
 .intro a b;rcases b with b|⟨z,e,b⟩
  .rcases G a b with c|c
   .exact⟨M a (SM c),(m.e0 a (SM c)).2.1⟩
   .exact⟨fun s=>by have:=i.bk.lt a s;omega,by omega⟩
  .rcases fN.1 e with e|e
   .exact⟨M a (RM ⟨z,e,b⟩),(m.e0 a (RM ⟨z,e,b⟩)).2.1⟩
   .simp only[eN]at e;subst e;have q:=H a b;refine⟨fun s=>?_,by omega⟩;rcases b with b|b
    .rcases L a b with c|c
     .exact a3 a s c
     .have:=i.bk.lt a s;omega
    .have:a=l:=b;have:=i.bk.lt a s;omega
theorem mF(g:Nat)(q t p f i:dj)(r:List Yq)(e:List Tw)(c:List (dj×dj))(u:List ej)(l:Nat)(m:World)(aS:aj m g 34 [q.val,t.val,p.val,f.val])(aO:Mz m t r)(aR:Ox m f e)(E:oz m l i c u)(af:uZ m g t r f e (zq c) (Ez u) l)(b8:r.length+c.length*2<=1200000000000)(b1:e.length<=1200000000000)(b4:c.length<=1000000000):
  CP 71 #[.pointer (some ⟨g,1,none⟩),i.val] m (QV m g q p t f i r e (zq c) c.length):=by
 have aA:Hd (∀b,i.val.ownBlock=some b->l<=b/\b<m.heap.size):=E.own.lt;have ax:Hd (∀F (aa:F<(zq c).length),∀b,(zq c)[F].val.ownBlock=some b->i.val.ownBlock≠some b):=fun F aa b A bO=>ow E.own (E.ob F aa (by rw[Zx,<-E.len,<-zx];exact aa)) (by decide) b bO A;have av:Hd (xk m g q p f r t e i c.length (xz c) (zq c) (Ez u) l m t r 0):=⟨aS,aO,aR,E.own,fun F ab bv _=>E.ob F ab bv,by simp,fun b A _=>SM A,bj.refl _ _,fun b A=>(af.b0 b A).2⟩;have ag:i.n=c.length:=(jj.ofOwn (s:=i) E.own).2;have a4:Hd (i.n=c.length):=ag;have bP:(i.n:Int)<=1000000000:=by rw[ag];omega
 have n:Hd (uZ m g t r f e (zq c) (Ez u) l):=af;have ao:Hd (r.length+c.length*2<=1200000000000):=b8;have T:Hd (e.length<=1200000000000):=b1;have an:Hd (c.length<=1000000000):=b4;clear aS aO aR E af b8 b1 b4 ag;unfold dj.val;go_enter Tryz.func71,Tryz.ntmps71
 go_upto_block 0 with fail
 go_cut [] (fun bS=>∃(o:dj) (j:List Yq),Hd (xk m g q p f r t e i c.length (xz c) (zq c) (Ez u) l bS o j (c.length*2)))
 case first=>
  go_wp2_with fail
  go_loopw [4] (fun ah wr=>∃(b:Nat) (o:dj) (j:List Yq),b<=c.length/\ah=.int .i64 b/\Hd (xk m g q p f r t e i c.length (xz c) (zq c) (Ez u) l wr o j (b*2))) (fun ah _=>c.length - (intOf ah).toNat)
  case atStart=>exact⟨0,t,r,by omega,by simp,av⟩
  case round=>
   obtain⟨b,o,j,A,rfl,z⟩:=hrel;have c9:(b:Int)<=1000000000:=by have:=an.o;omega
   by_cases a3:b<c.length
   .have b2:(b:Int)<i.n:=by rw[a4.o];omega
    obtain⟨a6,ak,aT,c6,aC,aD⟩:=Jw (jj.ofOwn (s:=i) z.o.own).1 b a3;have O:(zq c).length=c.length*2:=zx c;obtain⟨a8,a9⟩:=kY c b a3;have P:b*2<(zq c).length:=by rw[O];omega
    have Q:b*2+1<(zq c).length:=by rw[O];omega
    have a2:(zq c)[b*2]=c[b].1:=by rw[UM P]at a8;exact lN a8
    have aI:(zq c)[b*2+1]=c[b].2:=by rw[UM Q]at a9;exact lN a9
    have b5:b*2<(Ez u).length:=by rw[<-n.o.ln];exact P
    have b6:b*2+1<(Ez u).length:=by rw[<-n.o.ln];exact Q
    have bA:l<=wr.heap.size:=WM n.o.bb z.o.fr.size;have S:Hd (Calls _ _ _ _ _):=Nw g q o p f (zq c)[b*2] j (Ez u)[b*2] l wr z.o.row z.o.bk (z.o.ob _ P b5 (TM _)) (n.o.l12 _ (bN b5)) (by rw[z.o.len];have:=ao.o;omega) bA (xk.v n.o z.o P) z.o.bw;rw[a2]at S;have ap:Hd (∀(y:World) (w:dj) (d:Yq),aj y g 34 [q.val,w.val,p.val,f.val]->Mz y w (j++[d])->bj (fun k=>k=g\/c[b].1.val.ownBlock=some k\/o.val.ownBlock=some k) wr y->(∀k,Kj w (j++[d]) k->k<wr.heap.size->Kj o j k\/c[b].1.val.ownBlock=some k)->xk m g q p f r t e i c.length (xz c) (zq c) (Ez u) l y w (j++[d]) (b*2+1)):=fun y w d V K W X=>xk.next n.o z.o P V K (by rw[a2];exact W) (by rw[a2];exact X);unfold dj.val at S aC aD;obtain⟨ch,am,al⟩:=i;simp only at aT b2 bP a4;subst aT;have J:Hd ((zq c)[b*2+1]=c[b].2):=aI;clear a8 a9 a2 aI aD;generalize c[b].1=ce at*;generalize bc:c[b].2=cf at*;go_wp2_with fail;refine S.o.mono ?_;rintro x C ⟨rfl,L,d,V,K,W,X⟩;rw[<-bc]at J;have B:Hd (xk m g q p f r t e ⟨some ⟨a6,ak,none⟩,am,al⟩ c.length (xz c) (zq c) (Ez u) l C L (j++[d]) (b*2+1)):=ap.o C L d V K W X;obtain⟨c4,cd,bC,c7,bu,aE⟩:=Jw (jj.ofOwn (s:=⟨some ⟨a6,ak,none⟩,am,al⟩) B.o.own).1 b a3;cases bC;have bB:l<=C.heap.size:=WM n.o.bb B.o.fr.size;have G:Hd (Calls _ _ _ _ _):=Nw g q L p f (zq c)[b*2+1] (j++[d]) (Ez u)[b*2+1] l C B.o.row B.o.bk (B.o.ob _ Q b6 (TM _)) (n.o.l12 _ (bN b6)) (by rw[B.o.len];have:=ao.o;omega) bB (xk.v n.o B.o Q) B.o.bw;rw[J.o]at G;have ar:Hd (∀(y:World) (w:dj) (I:Yq),aj y g 34 [q.val,w.val,p.val,f.val]->Mz y w (j++[d]++[I])->bj (fun k=>k=g\/c[b].2.val.ownBlock=some k\/L.val.ownBlock=some k) C y->(∀k,Kj w (j++[d]++[I]) k->k<C.heap.size->Kj L (j++[d]) k\/c[b].2.val.ownBlock=some k)->xk m g q p f r t e ⟨some ⟨a6,ak,none⟩,am,al⟩ c.length (xz c) (zq c) (Ez u) l y w (j++[d]++[I]) ((b+1)*2)):=fun y w I Y Z a0 a1=>by
     have:=xk.next n.o B.o Q Y Z (by rw[J.o];exact a0) (by rw[J.o];exact a1);rw[show b*2+1+1=(b+1)*2 by omega]at this;exact this
    unfold dj.val at G aE;clear V K W X S ap bu aC bc J;generalize c[b].2=cg at*;go_wp2_with fail;refine G.o.mono ?_;rintro x bR ⟨rfl,aB,I,Y,Z,a0,a1⟩;have bp:=ar.o bR aB I Y Z a0 a1;clear Y Z a0 a1 G ar aE;go_wp2;exact⟨⟨b+1,aB,_,a3,by go_num,bp⟩,by simp[intOf];omega⟩
   .have b2:¬(b:Int)<i.n:=by rw[a4.o];omega
    obtain rfl:b=c.length:=by omega
    go_wp2_with fail;go_meet
    case rel=>exact⟨o,j,z⟩
 case rest=>
  obtain⟨o,j,v⟩:=hcut;have ae:=(vj (a:=f.a) (n':=f.n) (cap:=f.cap) v.o.be.own).1;have c8:(f.n:Int)<=1200000000000:=by rw[ae];have:=T.o;omega
  have bh:Hd ((e.length:Int)=(f.n:Int)):=by unfold Hd;rw[ae]
  have U:Hd (Calls _ _ _ _ _):=MV i c.length (xz c) l e.length wc v.o.own an.o (by have:=T.o;omega) (WM n.o.bb v.o.fr.size);rw[bh.o]at U;have bs:wc.cell? ⟨g,3,none⟩=some (.slice f.a f.n f.cap):=v.o.row.cell 3 (by simp);unfold dj.val at U;clear ae av;go_wp2_with fail;refine U.o.mono ?_;rintro x h ⟨d,ai,rfl,bb,b7,N,b0,b3⟩;have bd:∀b,i.val.ownBlock=some b->l<=b/\b<wc.heap.size:=v.o.own.lt;have b9:∀b,Kj o j b->¬i.val.ownBlock=some b:=fun b A x=>by
   have ab:=aA.o b x;rcases v.o.old b A ab.2 with a7|⟨F,bD,_,a7⟩
   .have:=(n.o.b0 b a7).1;omega
   .exact ax.o F bD b a7 x
  have ba:∀b,ly f e b->¬i.val.ownBlock=some b:=fun b A x=>by have:=(n.o.e0 b A).1;have:=(bd b x).1;omega
  have be:¬i.val.ownBlock=some g:=fun x=>by have:=(bd g x).1;have:=n.o.wl;omega
  have M:aj h g 34 [q.val,o.val,p.val,f.val]:=aj.of_block v.o.row (N.block _ v.o.row.lt be);have aP:Mz h o j:=v.o.bk.frame N b9;have ac:Ox h f e:=v.o.be.frame N ba;have D:Below h.heap.size h ((h.alloc (.cells (rO d (e.length:Int)) 65)).alloc (.cells (rO d (e.length:Int)) 65)).drew:=by
   have R:Below h.heap.size h ((h.alloc (.cells (rO d (e.length:Int)) 65)).alloc (.cells (rO d (e.length:Int)) 65)):=tO.alloc (by simp) _;exact⟨R.os,R.tape,R.output,R.size,R.block⟩
  have H:aj (h.alloc (.cells (rO d (e.length:Int)) 65)) h.heap.size 65 [.slice d.l.a d.l.n d.l.cap,.slice d.one.a d.one.n d.one.cap,.slice d.two.a d.two.n d.two.cap,.slice d.three.a d.three.n d.three.cap,.int .i64 (e.length:Int)]:=aj.new h _ _;have bT:=H.cell 0 (by simp);have c0:=H.cell 1 (by simp);have c1:=H.cell 2 (by simp);have c2:=H.cell 3 (by simp);have c3:=H.cell 4 (by simp);simp only[cN,gN]at bT c0 c1 c2 c3;have ci:(h.alloc (.cells (rO d (e.length:Int)) 65)).cell? ⟨g,3,none⟩=some (.slice f.a f.n f.cap):=(M.alloc _).cell 3 (by simp);have au:Hd (World.ownsRow ((h.alloc (.cells (rO d (e.length:Int)) 65)).alloc (.cells (rO d (e.length:Int)) 65)).drew 0 65 5 (.slice f.a f.n f.cap) e.length (ux 0 (e.map (·.r)))):=(ac.below D).own;have br:Hd (jj ((h.alloc (.cells (rO d (e.length:Int)) 65)).alloc (.cells (rO d (e.length:Int)) 65)).drew (some ⟨h.heap.size+1,0,none⟩) (qz d e.length)):=by
   have:=jj.alloc_new (h.alloc (.cells (rO d (e.length:Int)) 65)) (qz d e.length) 65;simp only[YM]at this;exact this
  have bg:Hd (∀bf∈qz d e.length,bf.oneCell'=true):=fun bf bI=>YJ bI;have a5:Hd (aj ((h.alloc (.cells (rO d (e.length:Int)) 65)).alloc (.cells (rO d (e.length:Int)) 65)).drew g 34 [q.val,o.val,p.val,f.val]):=aj.below M M.lt D;have G:Hd (Mz ((h.alloc (.cells (rO d (e.length:Int)) 65)).alloc (.cells (rO d (e.length:Int)) 65)).drew o j):=aP.below D;have bi:Hd (Ox ((h.alloc (.cells (rO d (e.length:Int)) 65)).alloc (.cells (rO d (e.length:Int)) 65)).drew f e):=ac.below D;have bo:Hd (Sv ((h.alloc (.cells (rO d (e.length:Int)) 65)).alloc (.cells (rO d (e.length:Int)) 65)).drew (bz ai) 2 d):=bb.below D;have bn:Hd (Rw ((h.alloc (.cells (rO d (e.length:Int)) 65)).alloc (.cells (rO d (e.length:Int)) 65)).drew e.length ai):=b7.below D;have bl:Hd (∀b,cy d b->i.val.ownBlock=some b\/wc.heap.size+1<b):=b0;have bm:Hd (ai=wc.heap.size+1):=b3;have bk:Hd (bj (fun b=>i.val.ownBlock=some b) wc ((h.alloc (.cells (rO d (e.length:Int)) 65)).alloc (.cells (rO d (e.length:Int)) 65)).drew):=N.trans (bj.of_below_all D);have cb:g<h.heap.size:=M.lt;have ca:g≠h.heap.size:=by omega
  clear D H M aP ac N bb b7 b0 b3 b9 ba be U bs;unfold qz;unfold dj.val;go_wp2
  go_region_law ((refine cq (by rfl) (.tmp 37) (.tmp 39) 30 (by rfl) 0 65 _ 5 104 Tryz.underlying30 Tryz.infoEntBk rfl (by decide) (.slice f.a f.n f.cap) e.length (ux 0 (e.map (·.r))) (by rfl) au.o ⟨h.heap.size+1,0,none⟩ 1 1 (qz d e.length) (by rfl) rfl br.o bg.o (by have:=T.o;unfold maxLen;omega) (by have:=T.o;omega) (nN _) ?_;intro K cc c5 C bE O bw;have ad:=aj.of_block a5.o (O.block _ a5.o.lt (fun x=>xj au.o a5.o (by decide) x));have cj:C.cell? ⟨g,3,none⟩=some (.slice f.a f.n f.cap):=aj.cell ad 3 (by simp);have ck:C.frozen? ⟨g,3,none⟩=false:=aj.frozen ad 3))
  all_goals
   go_wp2;go_returns;exact mM n.o v.o ad G.o bi.o bo.o bn.o bl.o bm.o bk.o aA.o ax.o bE O bw
def Rx(a:Nat):List UInt8:=[UInt8.ofNat a,UInt8.ofNat (a/256),UInt8.ofNat (a/65536),77,0,0,0,0]
theorem uK(a:Nat):(Rx a).length=8:=rfl
theorem RV(a:Nat):fj (UInt8.ofNat a)=.int .u8 ((a:Int)%256):=by
 unfold fj;rw[UInt8.toNat_ofNat'];simp
theorem RZ(a:Nat):(Rx a).map fj=[.int .u8 ((a:Int)%256),.int .u8 ((a:Int)/256%256),.int .u8 ((a:Int)/65536%256),.int .u8 77,.int .u8 0,.int .u8 0,.int .u8 0,.int .u8 0]:=by
 unfold Rx;rw[ZM,ZM,ZM,RV,RV,RV];rfl
theorem vK(a:Nat)(b:World)(e:a<=140737488355328):
  CP 101 #[.int .i64 a] b fun c d=>c=.returned (dV (Rx a))/\Below b.heap.size b d:=by
 have g:(a:Int)<=140737488355328:=by omega
 have f:(0:Int)<=a:=by omega
 unfold dV;rw[RZ];go_enter Tryz.func101,Tryz.ntmps101;go_wp2;go_returns;exact⟨rfl,by go_grown⟩
def xq(b:Nat):Nat->Value:=fun a=>((Rx b).map fj).getD (a%8) (.int .u8 0)
theorem vU(c b a:Nat)(d:a<8):xq c (b*8+a)=((Rx c).map fj).getD a (.int .u8 0):=by
 unfold xq;rw[show(b*8+a)%8=a by omega]
theorem fk(g:dj)(e:Nat)(m:World)(o:vz m (xq e) 8 g)(V:g.n<=140737488355328)(O:e<=140737488355328):
  CP 58 #[g.val,.int .i64 e] m fun B D=>B=.returned (.bool true)/\Below m.heap.size m D:=by
 have U:(e:Int)<=140737488355328:=by omega
 have T:(0:Int)<=e:=by omega
 have W:(g.n:Int)<=140737488355328:=by omega
 have K:Hd (vz m (xq e) 8 g):=o;have s:Hd (∀d,CP 101 #[.int .i64 e] d fun B D=>B=.returned (dV (Rx e))/\Below d.heap.size d D):=fun d=>vK e d O;have r:Hd (∀d,(Op.equalIn 10000 36 (dV (Rx e)) (dV (Rx e))).run Tryz.prog d=.ok true d):=fun d=>by
  have o:=run_equalIn_bytes (P:=Tryz.prog) d 9998 36 5 8 Tryz.underlying36 Tryz.underlying5 Tryz.sizeU8 (Rx e) (Rx e) rfl rfl;rw[beq_self_eq_true]at o;exact o
 have E:=fun b l F=>vU e b l F;clear o;unfold dV at r s;rw[RZ]at r s E;generalize ((e:Int)%256)=G at*;generalize ((e:Int)/256%256)=H at*;generalize ((e:Int)/65536%256)=I at*;have Q:=r.o;unfold dj.val;go_enter Tryz.func58,Tryz.ntmps58;go_wp2_with fail
 go_loopw [5] (fun C wr=>∃b:Nat,b<=g.n/\C=.int .i64 b/\Hd (BB m wr)) (fun C _=>g.n - (intOf C).toNat)
 case atStart=>exact⟨0,by omega,rfl,VM _ _⟩
 case round=>
  obtain⟨b,R,rfl,n⟩:=hrel;by_cases S:b<g.n
  .have N:(b:Int)<g.n:=by omega
   have j:∀l,l<8->∃a,g.a=some ⟨a,0,none⟩/\a<m.heap.size/\wr.cell? ⟨a,b*8+l,none⟩=some (xq e (b*8+l)):=fun l F=>by
    obtain⟨a,h,q,M⟩:=K.o (b*8+l) (by omega);exact⟨a,h,q,by rw[n.o.cell (p:=⟨a,b*8+l,none⟩) q];exact M⟩
   obtain⟨a,h,q,t⟩:=j 0 (by omega);obtain⟨_,c,_,u⟩:=j 1 (by omega);rw[h]at c;cases c;obtain⟨_,c,_,v⟩:=j 2 (by omega);rw[h]at c;cases c;obtain⟨_,c,_,w⟩:=j 3 (by omega);rw[h]at c;cases c;obtain⟨_,c,_,x⟩:=j 4 (by omega);rw[h]at c;cases c;obtain⟨_,c,_,y⟩:=j 5 (by omega);rw[h]at c;cases c;obtain⟨_,c,_,z⟩:=j 6 (by omega);rw[h]at c;cases c;obtain⟨_,c,_,A⟩:=j 7 (by omega);rw[h]at c;cases c;rw[E b _ (by omega)]at t u v w x y z A;simp only[List.getD_cons_zero,List.getD_cons_succ,eaj]at t u v w x y z A;have k:Hd (a<wr.heap.size):=qN q n.o.size;rw[h];clear j;go_wp2_with fail
   go_region_held3 (fun d=>d.cell? ⟨a,b*8,none⟩=some (.int .u8 G)/\d.cell? ⟨a,b*8+1,none⟩=some (.int .u8 H)/\d.cell? ⟨a,b*8+2,none⟩=some (.int .u8 I)/\d.cell? ⟨a,b*8+3,none⟩=some (.int .u8 77)/\d.cell? ⟨a,b*8+4,none⟩=some (.int .u8 0)/\d.cell? ⟨a,b*8+5,none⟩=some (.int .u8 0)/\d.cell? ⟨a,b*8+6,none⟩=some (.int .u8 0)/\d.cell? ⟨a,b*8+7,none⟩=some (.int .u8 0)) (go_keep)
    ((go_at_call 101;refine(s.o _).mono ?_;rintro a5 i ⟨rfl,f⟩;have X:i.cell? ⟨a,b*8,none⟩=some (.int .u8 G):=(by rw[f.cell (p:=⟨a,b*8,none⟩) (by show a<wr.heap.size;exact k.o)];exact t);have Y:i.cell? ⟨a,b*8+1,none⟩=some (.int .u8 H):=(by rw[f.cell (p:=⟨a,b*8+1,none⟩) (by show a<wr.heap.size;exact k.o)];exact u);have Z:i.cell? ⟨a,b*8+2,none⟩=some (.int .u8 I):=(by rw[f.cell (p:=⟨a,b*8+2,none⟩) (by show a<wr.heap.size;exact k.o)];exact v);have a0:i.cell? ⟨a,b*8+3,none⟩=some (.int .u8 77):=(by rw[f.cell (p:=⟨a,b*8+3,none⟩) (by show a<wr.heap.size;exact k.o)];exact w);have a1:i.cell? ⟨a,b*8+4,none⟩=some (.int .u8 0):=(by rw[f.cell (p:=⟨a,b*8+4,none⟩) (by show a<wr.heap.size;exact k.o)];exact x);have a2:i.cell? ⟨a,b*8+5,none⟩=some (.int .u8 0):=(by rw[f.cell (p:=⟨a,b*8+5,none⟩) (by show a<wr.heap.size;exact k.o)];exact y);have a3:i.cell? ⟨a,b*8+6,none⟩=some (.int .u8 0):=(by rw[f.cell (p:=⟨a,b*8+6,none⟩) (by show a<wr.heap.size;exact k.o)];exact z);have a4:i.cell? ⟨a,b*8+7,none⟩=some (.int .u8 0):=(by rw[f.cell (p:=⟨a,b*8+7,none⟩) (by show a<wr.heap.size;exact k.o)];exact A)))
   all_goals
    have J:Hd (BB m i):=by
     have L:Below wr.heap.size wr i:=⟨f.os,f.tape,f.output,f.size,f.block⟩;exact n.o.trans (L.mono n.o.size)
    clear f;go_wp2;refine⟨⟨b+1,by omega,by go_num,J⟩,by simp[intOf];omega⟩
  .have N:¬(b:Int)<g.n:=by omega
   go_wp2;go_ret;exact⟨rfl,n.o⟩
theorem nF(a:Yq)(d:Nat)(b:World)(k:Sv b (xq d) 8 a)(p:d<=140737488355328):
  CP 25 #[.agg (qz a d).toArray] b fun e g=>e=.returned (.bool true)/\Below b.heap.size b g:=by
 have o:Below b.heap.size b (b.alloc (.cells (rO a (d:Int)) 62)):=tO;have u:Hd (aj (b.alloc (.cells (rO a (d:Int)) 62)) b.heap.size 62 [.slice a.l.a a.l.n a.l.cap,.slice a.one.a a.one.n a.one.cap,.slice a.two.a a.two.n a.two.cap,.slice a.three.a a.three.n a.three.cap,.int .i64 d]):=aj.new b _ _;have l:Hd (∀c,BB b c->(CP 58 #[a.l.val,.int .i64 d] c fun e g=>e=.returned (.bool true)/\Below c.heap.size c g)/\(CP 58 #[a.one.val,.int .i64 d] c fun e g=>e=.returned (.bool true)/\Below c.heap.size c g)/\(CP 58 #[a.two.val,.int .i64 d] c fun e g=>e=.returned (.bool true)/\Below c.heap.size c g)/\(CP 58 #[a.three.val,.int .i64 d] c fun e g=>e=.returned (.bool true)/\Below c.heap.size c g)):=fun c o=>by
  have n:=k.below o;exact⟨fk a.l d _ n.l (by have:=k.nl;omega) p,fk a.one d _ n.one (by have:=k.n1;omega) p,fk a.two d _ n.two (by have:=k.n2;omega) p,fk a.three d _ n.three (by have:=k.n3;omega) p⟩
 have q:Hd (BB b _):=o;clear k o;unfold qz;unfold dj.val at l⊢;go_enter Tryz.func25,Tryz.ntmps25;go_wp2_with fail;refine(l.o _ q.o).1.mono ?_;rintro e C ⟨rfl,w⟩;have r:Hd (BB b C):=q.o.trans (w.mono q.o.size);have f:=aj.below u.o u.o.lt w;have z:=f.cell 1 (by simp);have m:=f.cell 2 (by simp);have i:=f.cell 3 (by simp);have j:=f.cell 4 (by simp);simp only[cN,gN]at z m i j;have f:Hd _:=f;clear w u;go_wp2_with fail;refine(l.o _ r.o).2.1.mono ?_;rintro e D ⟨rfl,x⟩;have s:Hd (BB b D):=r.o.trans (x.mono r.o.size);have h:=aj.below f.o (aj.lt f.o) x;clear z m i j;have m:=h.cell 2 (by simp);have i:=h.cell 3 (by simp);have j:=h.cell 4 (by simp);simp only[cN,gN]at m i j;have h:Hd _:=h;clear x f;go_wp2_with fail;refine(l.o _ s.o).2.2.1.mono ?_;rintro e E ⟨rfl,y⟩;have t:Hd (BB b E):=s.o.trans (y.mono s.o.size);have v:=aj.below h.o (aj.lt h.o) y;clear m i j;have i:=v.cell 3 (by simp);have j:=v.cell 4 (by simp);simp only[cN,gN]at i j;clear y h v;go_wp2_with fail;refine(l.o _ t.o).2.2.2.mono ?_;rintro e F ⟨rfl,A⟩;have B:Hd (BB b F):=t.o.trans (A.mono t.o.size);clear A;go_wp2;go_ret;exact⟨rfl,B.o⟩
structure cx(w:World)(ds:dj)(gs:List Yq):Prop where
 own:w.ownsRow 0 62 5 ds.val gs.length (ux 0 gs)
 ok:∀i (h:i<gs.length),Sv w (xq i) 8 gs[i]
 apart:∀r∈gs,∀k,cy r k->ds.val.ownBlock≠some k
theorem cx.frame{j k:World}{S:Nat->Prop}{c:dj}{b:List Yq}(d:cx j c b)(g:bj S j k)(f:∀a,Kj c b a->¬S a):cx k c b:=
 ⟨ij d.own g (fun a e=>f a (SM e)),fun i h=>(d.ok i h).frame g (fun a e=>f a (RM ⟨b[i],bN h,e⟩)),d.apart⟩
theorem cx.below{w w':World}{a:dj}{b:List Yq}(d:cx w a b)(e:Below w.heap.size w w'):cx w' a b:=d.frame (bj.of_below_all (S:=fun _=>False) e) (fun _ _ c=>c)
theorem cx.lt{f:World}{c:dj}{d:List Yq}(e:cx f c d):∀b,Kj c d b->b<f.heap.size:=fun b a=>by
 rcases a with a|⟨j,h,a⟩
 .exact(e.own.lt b a).2
 .obtain⟨i,g,rfl⟩:=PN h;exact(e.ok i g).lt b a
theorem cx.nil(c:World):cx c ⟨none,0,0⟩ []:=⟨iN _ _ _ _,fun d a=>absurd a (wN _),fun e b=>(by cases b)⟩
end
section
theorem Tryz.sizeDigsB:(Tryz.prog.info? 62).map (·.size)=some 5:=by kernel_rfl
theorem Tryz.infoDigP:(Tryz.prog.info? 36).map (fun a=>(a.zero,a.size,a.bytes))=some (some (.agg zO),8,8):=by kernel_rfl
theorem rL(c b:Nat):(fun a=>xq c (b*8+a))=fun a=>((Rx c).map fj).getD (a%8) (.int .u8 0):=funext fun a=>by
 unfold xq;rw[show(b*8+a)%8=a%8 by omega]
theorem gk{c:World}{n b d:Nat}{o:Value}{e f g h i j k l:UInt8}(s:Rx d=[e,f,g,h,i,j,k,l])(a:Nat)(r:a=1\/a=2\/a=3)(q:c.ownsRow n 36 8 o b (Jj (xq d) (b*8))):(c.alloc (.cells (List.replicate a [.int .u8 e.toNat,.int .u8 f.toNat,.int .u8 g.toNat,.int .u8 h.toNat,.int .u8 i.toNat,.int .u8 j.toNat,.int .u8 k.toNat,.int .u8 l.toNat]).flatten.toArray 36)).ownsRow n 36 8 o b (Jj (xq d) (b*8))/\jj (c.alloc (.cells (List.replicate a [.int .u8 e.toNat,.int .u8 f.toNat,.int .u8 g.toNat,.int .u8 h.toNat,.int .u8 i.toNat,.int .u8 j.toNat,.int .u8 k.toNat,.int .u8 l.toNat]).flatten.toArray 36)) (some ⟨c.heap.size,0,none⟩) (Jj (fun m=>xq d (b*8+m)) (a*8)):=by
 refine⟨q.alloc _,?_⟩;have p:Jj (fun m=>xq d (b*8+m)) (a*8)=(List.replicate a [.int .u8 e.toNat,.int .u8 f.toNat,.int .u8 g.toNat,.int .u8 h.toNat,.int .u8 i.toNat,.int .u8 j.toNat,.int .u8 k.toNat,.int .u8 l.toNat]).flatten:=by
  rw[rL,s];rcases r with rfl|rfl|rfl
  .rfl
  .rfl
  .rfl
 rw[p];exact jj.alloc_new c _ _
theorem QG(b:Nat)(m:List Value)(a:Nat){e f g h i j k l:UInt8}(w:Rx b=[e,f,g,h,i,j,k,l])(x:a*8+7<m.length):
  ((((((((Jj (xq b) (a*8)++m.drop (a*8)).set (a*8) (.int .u8 e.toNat)).set (a*8+1) (.int .u8 f.toNat)).set (a*8+2) (.int .u8 g.toNat)).set (a*8+3) (.int .u8 h.toNat)).set (a*8+4) (.int .u8 i.toNat)).set (a*8+5) (.int .u8 j.toNat)).set (a*8+6) (.int .u8 k.toNat)).set (a*8+7) (.int .u8 l.toNat)=Jj (xq b) ((a+1)*8)++m.drop ((a+1)*8):=by
 have c:∀d,d<8->xq b (a*8+d)=([e,f,g,h,i,j,k,l].map fj).getD d (.int .u8 0):=fun d v=>by rw[vU b a d v,w]
 have n:.int .u8 e.toNat=xq b (a*8):=(c 0 (by omega)).symm;have o:.int .u8 f.toNat=xq b (a*8+1):=(c 1 (by omega)).symm;have p:.int .u8 g.toNat=xq b (a*8+2):=(c 2 (by omega)).symm;have q:.int .u8 h.toNat=xq b (a*8+3):=(c 3 (by omega)).symm;have r:.int .u8 i.toNat=xq b (a*8+4):=(c 4 (by omega)).symm;have s:.int .u8 j.toNat=xq b (a*8+5):=(c 5 (by omega)).symm;have t:.int .u8 k.toNat=xq b (a*8+6):=(c 6 (by omega)).symm;have u:.int .u8 l.toNat=xq b (a*8+7):=(c 7 (by omega)).symm;rw[n,Vx _ _ _ (by omega),o,Vx _ _ _ (by omega),p,Vx _ _ _ (by omega),q,Vx _ _ _ (by omega),r,Vx _ _ _ (by omega),s,Vx _ _ _ (by omega),t,Vx _ _ _ (by omega),u,Vx _ _ _ (by omega),show(a+1)*8=a*8+7+1 by omega]
theorem SV(K:dj)(bf:Nat)(B:List Value)(y f:Nat)(q:World)(Q:q.ownsRow y 36 8 K.val bf B)(aE:bf<=1000000000)(c8:f<=140737488355328)(ah:y<=q.heap.size):
  CP 98 #[K.val,.int .i64 f] q fun w bg=>∃ao:Yq,w=.returned (.agg (qz ao f).toArray)/\Sv bg (xq f) 8 ao/\bj (fun b=>K.val.ownBlock=some b) q bg/\(∀b,cy ao b->K.val.ownBlock=some b\/q.heap.size<b):=by
 have aP:=vj (a:=K.a) (n':=K.n) (cap:=K.cap) Q;obtain⟨u,v,t⟩:=K;unfold dj.val at Q⊢;simp only at Q aP⊢;obtain⟨ad,ae,af,Z⟩:=aP;subst ad;have cT:(f:Int)<=140737488355328:=by omega
 have bc:B.length=v*8:=Q.1;have ag:Below q.heap.size q (q.alloc (.cells #[.slice none 0 0,.slice none 0 0,.slice none 0 0,.slice none 0 0,.int .i64 0] 62)):=tO;have av:Hd (∀b,(Value.slice u v t).ownBlock=some b->y<=b/\b<q.heap.size):=Q.lt;have d0:(v:Int)<=1000000000:=by omega
 have bh:Hd (u=none/\v=0/\t=0\/∃c,u=some ⟨c,0,none⟩/\y<=c/\c<q.heap.size):=Z;have bi:Hd (y<=q.heap.size):=ah;have L:Hd (v<=1000000000):=aE;have ax:Hd (B.length=v*8):=bc;have a8:Hd (Calls _ _ _ _ _):=vK f (q.alloc (.cells #[.slice none 0 0,.slice none 0 0,.slice none 0 0,.slice none 0 0,.int .i64 0] 62)) c8;obtain⟨g,h,i,j,l,m,n,o,al⟩:=uj (Rx f) (uK f);have I:Hd (Rx f=[g,h,i,j,l,m,n,o]):=al;rw[al]at a8;go_enter Tryz.func98,Tryz.ntmps98;go_wp2_with fail;refine a8.o.mono ?_;rintro w E ⟨rfl,a0⟩;have bd:=a0.size;simp only[YM]at bd;have a1:Below q.heap.size q E:=ag.trans (a0.mono ag.size);have bp:Hd (aj (E.alloc (.cells (cO g h i j l m n o) 36)) q.heap.size 62 [.slice none 0 0,.slice none 0 0,.slice none 0 0,.slice none 0 0,.int .i64 0]):=((aj.new q 62 [.slice none 0 0,.slice none 0 0,.slice none 0 0,.slice none 0 0,.int .i64 0]).below (by simp) a0).alloc _;have bs:Hd (aj (E.alloc (.cells (cO g h i j l m n o) 36)) E.heap.size 36 [.int .u8 g.toNat,.int .u8 h.toNat,.int .u8 i.toNat,.int .u8 j.toNat,.int .u8 l.toNat,.int .u8 m.toNat,.int .u8 n.toNat,.int .u8 o.toNat]):=aj.new E 36 [.int .u8 g.toNat,.int .u8 h.toNat,.int .u8 i.toNat,.int .u8 j.toNat,.int .u8 l.toNat,.int .u8 m.toNat,.int .u8 n.toNat,.int .u8 o.toNat];have bn:Hd ((E.alloc (.cells (cO g h i j l m n o) 36)).ownsRow y 36 8 (.slice u v t) v B):=(lj Q a1).alloc _;have bl:Hd (bj (fun b=>(Value.slice u v t).ownBlock=some b) q (E.alloc (.cells (cO g h i j l m n o) 36))):=bj.of_below_all (a1.alloc a1.size _);have d2:E.heap.size≠q.heap.size:=by omega
 have a9:Hd (q.heap.size<E.heap.size):=by unfold Hd;omega
 unfold dV fj;simp only[ZM,dN];clear ag Q ae af Z ah aE bc a0 a1 bd al a8;go_upto_region 2 with fail;generalize E.alloc (.cells (cO g h i j l m n o) 36)=cm at*;generalize E.heap.size=r at*;go_wp2
 go_loopw [6] (fun am wr=>∃b:Nat,b<=v/\am=.int .i64 b/\Hd (wr.ownsRow y 36 8 (.slice u v t) v (Jj (xq f) (b*8)++B.drop (b*8)))/\Hd (bj (fun b=>(Value.slice u v t).ownBlock=some b) q wr)/\Hd (aj wr q.heap.size 62 [.slice none 0 0,.slice none 0 0,.slice none 0 0,.slice none 0 0,.int .i64 0])/\Hd (aj wr r 36 [.int .u8 g.toNat,.int .u8 h.toNat,.int .u8 i.toNat,.int .u8 j.toNat,.int .u8 l.toNat,.int .u8 m.toNat,.int .u8 n.toNat,.int .u8 o.toNat])) (fun am _=>v - (intOf am).toNat)
 case atStart=>exact⟨0,by omega,by simp,by unfold Hd;simpa[Jj]using bn.o,bl,bp,bs⟩
 case round=>
  obtain⟨b,cD,rfl,x,a5,a7,D⟩:=hrel;have dC:wr.cell? ⟨r,0,none⟩=some (.int .u8 g.toNat):=aj.cell? D.o 0;have dD:wr.cell? ⟨r,1,none⟩=some (.int .u8 h.toNat):=aj.cell? D.o 1;have dE:wr.cell? ⟨r,2,none⟩=some (.int .u8 i.toNat):=aj.cell? D.o 2;have dI:wr.cell? ⟨r,3,none⟩=some (.int .u8 j.toNat):=aj.cell? D.o 3;have dO:wr.cell? ⟨r,4,none⟩=some (.int .u8 l.toNat):=aj.cell? D.o 4;have dP:wr.cell? ⟨r,5,none⟩=some (.int .u8 m.toNat):=aj.cell? D.o 5;have dR:wr.cell? ⟨r,6,none⟩=some (.int .u8 n.toNat):=aj.cell? D.o 6;have dS:wr.cell? ⟨r,7,none⟩=some (.int .u8 o.toNat):=aj.cell? D.o 7;have cI:(b:Int)<=1000000000:=by omega
  by_cases cR:b<v
  .have c7:(b:Int)<v:=by omega
   obtain⟨c,ca,bT,c2⟩:∃c,u=some ⟨c,0,none⟩/\y<=c/\c<q.heap.size:=by
    rcases bh.o with⟨_,cB,_⟩|P
    .omega
    .exact P
   subst ca;have c6:b*8+7<B.length:=by have:=ax.o;omega
   have H:(Jj (xq f) (b*8)++B.drop (b*8)).length=B.length:=by rw[XM,Iq,oN];omega
   obtain⟨dm,b0⟩:∃C,(Jj (xq f) (b*8)++B.drop (b*8))[b*8]? =some C:=⟨_,UM (by rw[H];omega)⟩;have bu:=BN x.o (b*8) (by omega);rw[b0]at bu;have cn:=CN x.o (b*8);obtain⟨dn,b1⟩:∃C,(Jj (xq f) (b*8)++B.drop (b*8))[b*8+1]? =some C:=⟨_,UM (by rw[H];omega)⟩;have bv:=BN x.o (b*8+1) (by omega);rw[b1]at bv;have co:=CN x.o (b*8+1);obtain⟨dp,b2⟩:∃C,(Jj (xq f) (b*8)++B.drop (b*8))[b*8+2]? =some C:=⟨_,UM (by rw[H];omega)⟩;have M:=BN x.o (b*8+2) (by omega);rw[b2]at M;have cp:=CN x.o (b*8+2);obtain⟨dr,b3⟩:∃C,(Jj (xq f) (b*8)++B.drop (b*8))[b*8+3]? =some C:=⟨_,UM (by rw[H];omega)⟩;have N:=BN x.o (b*8+3) (by omega);rw[b3]at N;have cr:=CN x.o (b*8+3);obtain⟨ds,b4⟩:∃C,(Jj (xq f) (b*8)++B.drop (b*8))[b*8+4]? =some C:=⟨_,UM (by rw[H];omega)⟩;have O:=BN x.o (b*8+4) (by omega);rw[b4]at O;have ct:=CN x.o (b*8+4);obtain⟨dt,b5⟩:∃C,(Jj (xq f) (b*8)++B.drop (b*8))[b*8+5]? =some C:=⟨_,UM (by rw[H];omega)⟩;have bw:=BN x.o (b*8+5) (by omega);rw[b5]at bw;have cu:=CN x.o (b*8+5);obtain⟨du,b6⟩:∃C,(Jj (xq f) (b*8)++B.drop (b*8))[b*8+6]? =some C:=⟨_,UM (by rw[H];omega)⟩;have bA:=BN x.o (b*8+6) (by omega);rw[b6]at bA;have cv:=CN x.o (b*8+6);obtain⟨dA,b7⟩:∃C,(Jj (xq f) (b*8)++B.drop (b*8))[b*8+7]? =some C:=⟨_,UM (by rw[H];omega)⟩;have bB:=BN x.o (b*8+7) (by omega);rw[b7]at bB;have cA:=CN x.o (b*8+7);have bm:Hd (((((((((wr.setCell ⟨c,b*8,none⟩ (.int .u8 g.toNat)).setCell ⟨c,b*8+1,none⟩ (.int .u8 h.toNat)).setCell ⟨c,b*8+2,none⟩ (.int .u8 i.toNat)).setCell ⟨c,b*8+3,none⟩ (.int .u8 j.toNat)).setCell ⟨c,b*8+4,none⟩ (.int .u8 l.toNat)).setCell ⟨c,b*8+5,none⟩ (.int .u8 m.toNat)).setCell ⟨c,b*8+6,none⟩ (.int .u8 n.toNat)).setCell ⟨c,b*8+7,none⟩ (.int .u8 o.toNat)).ownsRow y 36 8 (.slice (some ⟨c,0,none⟩) v t) v (Jj (xq f) ((b+1)*8)++B.drop ((b+1)*8))):=by
    have ad:=(QN x.o (b*8) (.int .u8 g.toNat)).1;have ae:=(QN ad (b*8+1) (.int .u8 h.toNat)).1;have af:=(QN ae (b*8+2) (.int .u8 i.toNat)).1;have Z:=(QN af (b*8+3) (.int .u8 j.toNat)).1;have bC:=(QN Z (b*8+4) (.int .u8 l.toNat)).1;have bD:=(QN bC (b*8+5) (.int .u8 m.toNat)).1;have bE:=(QN bD (b*8+6) (.int .u8 n.toNat)).1;have aD:=(QN bE (b*8+7) (.int .u8 o.toNat)).1;rw[QG f B b I.o c6]at aD;exact aD
   have a2:bj (fun d=>(Value.slice (some ⟨c,0,none⟩) v t).ownBlock=some d) wr ((((((((wr.setCell ⟨c,b*8,none⟩ (.int .u8 g.toNat)).setCell ⟨c,b*8+1,none⟩ (.int .u8 h.toNat)).setCell ⟨c,b*8+2,none⟩ (.int .u8 i.toNat)).setCell ⟨c,b*8+3,none⟩ (.int .u8 j.toNat)).setCell ⟨c,b*8+4,none⟩ (.int .u8 l.toNat)).setCell ⟨c,b*8+5,none⟩ (.int .u8 m.toNat)).setCell ⟨c,b*8+6,none⟩ (.int .u8 n.toNat)).setCell ⟨c,b*8+7,none⟩ (.int .u8 o.toNat)):=(((((((((bj.refl (fun d=>(Value.slice (some ⟨c,0,none⟩) v t).ownBlock=some d) wr).setCell (p:=⟨c,b*8,none⟩) rfl _).setCell (p:=⟨c,b*8+1,none⟩) rfl _).setCell (p:=⟨c,b*8+2,none⟩) rfl _).setCell (p:=⟨c,b*8+3,none⟩) rfl _).setCell (p:=⟨c,b*8+4,none⟩) rfl _).setCell (p:=⟨c,b*8+5,none⟩) rfl _).setCell (p:=⟨c,b*8+6,none⟩) rfl _).setCell (p:=⟨c,b*8+7,none⟩) rfl _);have ak:∀d,q.heap.size<=d->¬(Value.slice (some ⟨c,0,none⟩) v t).ownBlock=some d:=fun d e w=>by have:=(av.o d w).2;omega
   have bk:Hd (bj (fun b=>(Value.slice (some ⟨c,0,none⟩) v t).ownBlock=some b) q ((((((((wr.setCell ⟨c,b*8,none⟩ (.int .u8 g.toNat)).setCell ⟨c,b*8+1,none⟩ (.int .u8 h.toNat)).setCell ⟨c,b*8+2,none⟩ (.int .u8 i.toNat)).setCell ⟨c,b*8+3,none⟩ (.int .u8 j.toNat)).setCell ⟨c,b*8+4,none⟩ (.int .u8 l.toNat)).setCell ⟨c,b*8+5,none⟩ (.int .u8 m.toNat)).setCell ⟨c,b*8+6,none⟩ (.int .u8 n.toNat)).setCell ⟨c,b*8+7,none⟩ (.int .u8 o.toNat))):=a5.o.trans a2;have bo:Hd (aj ((((((((wr.setCell ⟨c,b*8,none⟩ (.int .u8 g.toNat)).setCell ⟨c,b*8+1,none⟩ (.int .u8 h.toNat)).setCell ⟨c,b*8+2,none⟩ (.int .u8 i.toNat)).setCell ⟨c,b*8+3,none⟩ (.int .u8 j.toNat)).setCell ⟨c,b*8+4,none⟩ (.int .u8 l.toNat)).setCell ⟨c,b*8+5,none⟩ (.int .u8 m.toNat)).setCell ⟨c,b*8+6,none⟩ (.int .u8 n.toNat)).setCell ⟨c,b*8+7,none⟩ (.int .u8 o.toNat)) q.heap.size 62 [.slice none 0 0,.slice none 0 0,.slice none 0 0,.slice none 0 0,.int .i64 0]):=aj.of_block a7.o (a2.block _ a7.o.lt (ak _ (TM _)));have br:Hd (aj ((((((((wr.setCell ⟨c,b*8,none⟩ (.int .u8 g.toNat)).setCell ⟨c,b*8+1,none⟩ (.int .u8 h.toNat)).setCell ⟨c,b*8+2,none⟩ (.int .u8 i.toNat)).setCell ⟨c,b*8+3,none⟩ (.int .u8 j.toNat)).setCell ⟨c,b*8+4,none⟩ (.int .u8 l.toNat)).setCell ⟨c,b*8+5,none⟩ (.int .u8 m.toNat)).setCell ⟨c,b*8+6,none⟩ (.int .u8 n.toNat)).setCell ⟨c,b*8+7,none⟩ (.int .u8 o.toNat)) r 36 [.int .u8 g.toNat,.int .u8 h.toNat,.int .u8 i.toNat,.int .u8 j.toNat,.int .u8 l.toNat,.int .u8 m.toNat,.int .u8 n.toNat,.int .u8 o.toNat]):=aj.of_block D.o (a2.block _ D.o.lt (ak _ (by have:=a9.o;omega)));clear bT c2 a2 ak H b0 b1 b2 b3 b4 b5 b6 b7;go_wp2;exact⟨⟨b+1,by omega,by go_num,bm,bk,bo,br⟩,by simp[intOf];omega⟩
  .obtain rfl:b=v:=by omega
   have c7:¬(b:Int)<b:=by omega
   have au:Hd (wr.ownsRow y 36 8 (.slice u b t) b (Jj (xq f) (b*8))):=by
    have:=x.o;rw[xaj (by rw[ax.o];exact TM _),XN]at this;exact this
   clear x;have a6:Hd (∀F,(xq f F).oneCell'=true):=fun F=>by
    unfold xq;rw[I.o];have c3:F%8<8:=Nat.mod_lt _ (by omega);generalize F%8=d at*
    match d,c3 with
    |0,_=>rfl
    |1,_=>rfl
    |2,_=>rfl
    |3,_=>rfl
    |4,_=>rfl
    |5,_=>rfl
    |6,_=>rfl
    |7,_=>rfl
   have ar:Hd (∀d,(Value.slice u b t).ownBlock=some d->d<q.heap.size):=fun d e=>(av.o d e).2;have T:Hd (∀(ab ac:World) (Y:Nat) (aa:Nat) (an:List Value),q.heap.size<=Y->aj ab Y aa an->bj (fun d=>(Value.slice u b t).ownBlock=some d) ab ac->aj ac Y aa an):=fun ab ac Y aa an ah P c0=>P.of_block (c0.block _ P.lt (fun w=>by have:=ar.o _ w;omega));have a4:Hd (y<=wr.heap.size):=WM bi.o a5.o.size;have bb:q.heap.size<=r:=by have:=a9.o;omega
   go_wp2_with (first
    |(at_builtin;have cd:(wr.alloc (.cells (cO g h i j l m n o) 36)).ownsRow y 36 8 (.slice u b t) b (Jj (xq f) (b*8)):=(gk I.o 1 (SM rfl) au.o).1;have cg:jj (wr.alloc (.cells (cO g h i j l m n o) 36)) (some ⟨wr.heap.size,0,none⟩) (Jj (fun F=>xq f (b*8+F)) (1*8)):=(gk I.o 1 (SM rfl) au.o).2;refine uv (by rfl) (.tmp 22) (.tmp 24) 41 (by rfl) y 36 _ 8 8 Tryz.underlying41 Tryz.infoDigP rfl (by decide) (xq f) (.slice u b t) b (by rfl) cd ⟨wr.heap.size,0,none⟩ 1 1 (by rfl) cg a6.o (by decide) (by have:=L.o;unfold maxLen;omega) (by have:=L.o;omega) (by have:=a4.o;simp;omega) ?_;intro U M z aR R bP cE b8;have G:=T.o _ _ r _ _ bb (aj.alloc D.o _) R;have d4:z.cell? ⟨r,0,none⟩=some (.int .u8 g.toNat):=aj.cell? G 0;have d5:z.cell? ⟨r,1,none⟩=some (.int .u8 h.toNat):=aj.cell? G 1;have d6:z.cell? ⟨r,2,none⟩=some (.int .u8 i.toNat):=aj.cell? G 2;have d7:z.cell? ⟨r,3,none⟩=some (.int .u8 j.toNat):=aj.cell? G 3;have d8:z.cell? ⟨r,4,none⟩=some (.int .u8 l.toNat):=aj.cell? G 4;have d9:z.cell? ⟨r,5,none⟩=some (.int .u8 m.toNat):=aj.cell? G 5;have da:z.cell? ⟨r,6,none⟩=some (.int .u8 n.toNat):=aj.cell? G 6;have db:z.cell? ⟨r,7,none⟩=some (.int .u8 o.toNat):=aj.cell? G 7)
    |(at_builtin;have ce:(z.alloc (.cells #[.int .u8 g.toNat,.int .u8 h.toNat,.int .u8 i.toNat,.int .u8 j.toNat,.int .u8 l.toNat,.int .u8 m.toNat,.int .u8 n.toNat,.int .u8 o.toNat,.int .u8 g.toNat,.int .u8 h.toNat,.int .u8 i.toNat,.int .u8 j.toNat,.int .u8 l.toNat,.int .u8 m.toNat,.int .u8 n.toNat,.int .u8 o.toNat] 36)).ownsRow y 36 8 (.slice u b t) b (Jj (xq f) (b*8)):=(gk I.o 2 (RM (SM rfl)) b8).1;have ch:jj (z.alloc (.cells #[.int .u8 g.toNat,.int .u8 h.toNat,.int .u8 i.toNat,.int .u8 j.toNat,.int .u8 l.toNat,.int .u8 m.toNat,.int .u8 n.toNat,.int .u8 o.toNat,.int .u8 g.toNat,.int .u8 h.toNat,.int .u8 i.toNat,.int .u8 j.toNat,.int .u8 l.toNat,.int .u8 m.toNat,.int .u8 n.toNat,.int .u8 o.toNat] 36)) (some ⟨z.heap.size,0,none⟩) (Jj (fun F=>xq f (b*8+F)) (2*8)):=(gk I.o 2 (RM (SM rfl)) b8).2;refine uv (by rfl) (.tmp 26) (.tmp 29) 41 (by rfl) y 36 _ 8 8 Tryz.underlying41 Tryz.infoDigP rfl (by decide) (xq f) (.slice u b t) b (by rfl) ce ⟨z.heap.size,0,none⟩ 2 2 (by rfl) ch a6.o (by decide) (by have:=L.o;unfold maxLen;omega) (by have:=L.o;omega) (by have:=(WM a4.o (WM (by simp) R.size):y<=z.heap.size);simp;omega) ?_;intro V N A aS X bR c4 b9;have J:=T.o _ _ r _ _ bb (aj.alloc G _) X;have dc:A.cell? ⟨r,0,none⟩=some (.int .u8 g.toNat):=aj.cell? J 0;have dd:A.cell? ⟨r,1,none⟩=some (.int .u8 h.toNat):=aj.cell? J 1;have de:A.cell? ⟨r,2,none⟩=some (.int .u8 i.toNat):=aj.cell? J 2;have df:A.cell? ⟨r,3,none⟩=some (.int .u8 j.toNat):=aj.cell? J 3;have dg:A.cell? ⟨r,4,none⟩=some (.int .u8 l.toNat):=aj.cell? J 4;have dh:A.cell? ⟨r,5,none⟩=some (.int .u8 m.toNat):=aj.cell? J 5;have di:A.cell? ⟨r,6,none⟩=some (.int .u8 n.toNat):=aj.cell? J 6;have dl:A.cell? ⟨r,7,none⟩=some (.int .u8 o.toNat):=aj.cell? J 7)
    |(at_builtin;have cf:(A.alloc (.cells #[.int .u8 g.toNat,.int .u8 h.toNat,.int .u8 i.toNat,.int .u8 j.toNat,.int .u8 l.toNat,.int .u8 m.toNat,.int .u8 n.toNat,.int .u8 o.toNat,.int .u8 g.toNat,.int .u8 h.toNat,.int .u8 i.toNat,.int .u8 j.toNat,.int .u8 l.toNat,.int .u8 m.toNat,.int .u8 n.toNat,.int .u8 o.toNat,.int .u8 g.toNat,.int .u8 h.toNat,.int .u8 i.toNat,.int .u8 j.toNat,.int .u8 l.toNat,.int .u8 m.toNat,.int .u8 n.toNat,.int .u8 o.toNat] 36)).ownsRow y 36 8 (.slice u b t) b (Jj (xq f) (b*8)):=(gk I.o 3 (RM (RM rfl)) b9).1;have ci:jj (A.alloc (.cells #[.int .u8 g.toNat,.int .u8 h.toNat,.int .u8 i.toNat,.int .u8 j.toNat,.int .u8 l.toNat,.int .u8 m.toNat,.int .u8 n.toNat,.int .u8 o.toNat,.int .u8 g.toNat,.int .u8 h.toNat,.int .u8 i.toNat,.int .u8 j.toNat,.int .u8 l.toNat,.int .u8 m.toNat,.int .u8 n.toNat,.int .u8 o.toNat,.int .u8 g.toNat,.int .u8 h.toNat,.int .u8 i.toNat,.int .u8 j.toNat,.int .u8 l.toNat,.int .u8 m.toNat,.int .u8 n.toNat,.int .u8 o.toNat] 36)) (some ⟨A.heap.size,0,none⟩) (Jj (fun F=>xq f (b*8+F)) (3*8)):=(gk I.o 3 (RM (RM rfl)) b9).2;refine uv (by rfl) (.tmp 31) (.tmp 35) 41 (by rfl) y 36 _ 8 8 Tryz.underlying41 Tryz.infoDigP rfl (by decide) (xq f) (.slice u b t) b (by rfl) cf ⟨A.heap.size,0,none⟩ 3 3 (by rfl) ci a6.o (by decide) (by have:=L.o;unfold maxLen;omega) (by have:=L.o;omega) (by have:=(WM a4.o (WM (WM (by simp) R.size) (WM (by simp) X.size)):y<=A.heap.size);simp;omega) ?_;intro W O ap aT ai bS c5 ba;have bI:=T.o _ _ _ _ _ (TM _) (aj.alloc (T.o _ _ _ _ _ (TM _) (aj.alloc (T.o _ _ _ _ _ (TM _) (aj.alloc a7.o _) R) _) X) _) ai)
    |(refine xv (by rfl) 62 (.tmp 4) (.tmp 42) (by rfl) q.heap.size (by rfl) [.slice u b t,.slice U (b+1) M,.slice V (b+2) N,.slice W (b+3) O,.int .i64 f] (by rfl) bI rfl Tryz.sizeDigsB (fun C c9=>YJ c9) ?_;intro dB bO S d3))
   have d1:r<wr.heap.size:=D.o.lt;have cC:=a9.o;have cj:=R.size;have ck:=X.size;have cl:=ai.size;simp only[YM]at cj ck cl;have aI:Below z.heap.size z (z.alloc (.cells #[.int .u8 g.toNat,.int .u8 h.toNat,.int .u8 i.toNat,.int .u8 j.toNat,.int .u8 l.toNat,.int .u8 m.toNat,.int .u8 n.toNat,.int .u8 o.toNat,.int .u8 g.toNat,.int .u8 h.toNat,.int .u8 i.toNat,.int .u8 j.toNat,.int .u8 l.toNat,.int .u8 m.toNat,.int .u8 n.toNat,.int .u8 o.toNat] 36)):=tO;have aO:Below A.heap.size A (A.alloc (.cells #[.int .u8 g.toNat,.int .u8 h.toNat,.int .u8 i.toNat,.int .u8 j.toNat,.int .u8 l.toNat,.int .u8 m.toNat,.int .u8 n.toNat,.int .u8 o.toNat,.int .u8 g.toNat,.int .u8 h.toNat,.int .u8 i.toNat,.int .u8 j.toNat,.int .u8 l.toNat,.int .u8 m.toNat,.int .u8 n.toNat,.int .u8 o.toNat,.int .u8 g.toNat,.int .u8 h.toNat,.int .u8 i.toNat,.int .u8 j.toNat,.int .u8 l.toNat,.int .u8 m.toNat,.int .u8 n.toNat,.int .u8 o.toNat] 36)):=tO;have cb:Pq (xq f) z A:=(Pq.below aI).trans c4 aI.size;have be:Pq (xq f) A ap:=(Pq.below aO).trans c5 aO.size;have cc:Pq (xq f) z ap:=cb.trans be (by omega);have aA:∀d,(Value.slice U (b+1) M).ownBlock=some d->(Value.slice u b t).ownBlock=some d\/q.heap.size<d:=fun d e=>by
    rcases bP with w|w
    .exact SM (by rw[<-w];exact e)
    .rw[w]at e;have:=lN e;simp at this;exact RM (by omega)
   have aB:∀d,(Value.slice V (b+2) N).ownBlock=some d->(Value.slice u b t).ownBlock=some d\/q.heap.size<d:=fun d e=>by
    rcases bR with w|w
    .exact SM (by rw[<-w];exact e)
    .rw[w]at e;have:=lN e;simp at this;exact RM (by omega)
   have aC:∀d,(Value.slice W (b+3) O).ownBlock=some d->(Value.slice u b t).ownBlock=some d\/q.heap.size<d:=fun d e=>by
    rcases bS with w|w
    .exact SM (by rw[<-w];exact e)
    .rw[w]at e;have:=lN e;simp at this;exact RM (by omega)
   have a3:∀d,((Value.slice u b t).ownBlock=some d\/q.heap.size<d)->¬d=q.heap.size:=fun d e w=>by
    rcases e with P|P
    .have:=ar.o d P;omega
    .omega
   have c1:bj (fun d=>(Value.slice u b t).ownBlock=some d) q ap:=(((((a5.o.alloc _).trans R).alloc _).trans X).alloc _).trans ai;have cP:=L.o;refine Cv (k:=4) (cs:=qz ⟨⟨u,b,t⟩,⟨U,b+1,M⟩,⟨V,b+2,N⟩,⟨W,b+3,O⟩⟩ f) rfl rfl bO Tryz.underlying62 rfl Tryz.sizeDigsB rfl ⟨⟨⟨u,b,t⟩,⟨U,b+1,M⟩,⟨V,b+2,N⟩,⟨W,b+3,O⟩⟩,rfl,⟨?_,?_,?_,?_,by simp only;omega,by simp only;omega,by simp only;omega,by simp only;omega,?_⟩,?_,?_⟩
   .exact(vz.own (s:=⟨u,b,t⟩) ba).frame S (fun d e=>a3 d (SM e))
   .exact((vz.own (s:=⟨U,b+1,M⟩) aR).keep cc (by omega)).frame S (fun d e=>a3 d (aA d e))
   .exact((vz.own (s:=⟨V,b+2,N⟩) aS).keep be (by omega)).frame S (fun d e=>a3 d (aB d e))
   .exact(vz.own (s:=⟨W,b+3,O⟩) aT).frame S (fun d e=>a3 d (aC d e))
   .intro d e;have dT:=S.size;rcases e with e|e|e|e
    .have:=(ba.lt d e).2;omega
    .have:=(aR.lt d e).2;omega
    .have:=(aS.lt d e).2;omega
    .have:=(aT.lt d e).2;omega
   .exact bj.inside c1 S (fun d cS w=>by omega)
   .intro d e;rcases e with e|e|e|e
    .exact SM e
    .exact aA d e
    .exact aB d e
    .exact aC d e
end
end Go.Proofs.YtekegfbjbainhaaGreat
