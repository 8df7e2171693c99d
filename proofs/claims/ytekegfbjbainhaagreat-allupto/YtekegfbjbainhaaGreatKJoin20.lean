import Derived.Test.YtekegfbjbainhaaGreatKJoin19
import Derived.Deep.RegionHeld3
import Derived.Deep.DrawnRows
set_option maxRecDepth 100000
set_option maxHeartbeats 4000000
set_option linter.unusedVariables false
set_option linter.unusedSimpArgs false
namespace Go.Proofs.YtekegfbjbainhaaGreat
open Go.RowKit
section
theorem eK(c:Nat)(b:dj)(a:World)(f:a.cell? ⟨c,0,none⟩=some b.val):
  CP 146 #[.pointer (some ⟨c,0,none⟩)] a fun d e=>d=.returned b.val/\e=a:=by
 unfold dj.val at*;go_enter Tryz.func146,Tryz.ntmps146;go_wp2;go_ret;exact⟨rfl,rfl⟩
def Qz(e:List ej)(c f:List UInt8)(b:List Nat)(d:Nat):List Nat:=(List.range d).flatMap (fun a=>if gq e a c f=true then[b.getD a 0]else[])
theorem EV(d:List ej)(c e:List UInt8)(b:List Nat)(a:Nat)(f:gq d a c e=true):Qz d c e b (a+1)=Qz d c e b a++[b.getD a 0]:=by
 unfold Qz;rw[uaj,KN];simp[f]
theorem WX(c:List ej)(a d:List UInt8)(e:List Nat)(b:Nat)(f:gq c b a d=false):Qz c a d e (b+1)=Qz c a d e b:=by
 unfold Qz;rw[uaj,KN];simp[f]
theorem FV(c:List ej)(b d:List UInt8)(e:List Nat):∀(a:Nat),(Qz c b d e a).length<=a
 |0=>by simp[Qz]
 |a+1=>by
  have g:=FV c b d e a;cases f:gq c a b d
  .rw[WX _ _ _ _ _ f];omega
  .rw[EV _ _ _ _ _ f];simp;omega
theorem wG{a:List ej}{fr tu:List UInt8}{c:Int}(d:0<a.length)(f:Lib.compareBytes a[0].key fr=c):gq a 0 fr tu=decide (0<=c):=by
 unfold gq;rw[jy d];have:=Tx a[0].key fr;rw[f]at this;cases b:Op.bytesLess a[0].key fr
 .have e:¬c<0:=fun d=>by rw[this.1 d]at b;cases b
  simp;omega
 .have e:c<0:=this.2 b;simp;omega
theorem xG{b:List ej}{fr tu:List UInt8}{a:Nat}{c d:Int}(k:a+1<b.length)(m:Lib.compareBytes b[a].key tu=d)(l:Lib.compareBytes b[a+1].key fr=c):gq b (a+1) fr tu=(decide (d<0)&&decide (0<=c)):=by
 unfold gq;rw[jy k,show a+1 - 1=a by omega,jy (by omega:a<b.length)];have e:=Tx b[a+1].key fr;have f:=Tx b[a].key tu;rw[l]at e;rw[m]at f;have g:Op.bytesLess b[a+1].key fr=decide (c<0):=by
  rw[caj];simp[e]
 have h:Op.bytesLess b[a].key tu=decide (d<0):=by
  rw[caj];simp[f]
 rw[g,h];by_cases i:c<0<;>by_cases j:d<0<;>simp[i,j]<;>omega
theorem AW(Z:Option Addr)(q ax:Nat)(h:List Nat)(a:List ej)(U V:dj)(f g:List UInt8)(l:World)(an:q=a.length)(aO:a.length=h.length)(aA:a.length<=200)(ap:jj l Z (h.map Cj))(ah:∀M (b4:M<h.length) (b5:M<a.length),∃N:dj,l.cell? ⟨h[M],0,none⟩=some N.val/\h[M]<l.heap.size/\BS l N a[M].key)(ad:BS l U f)(ae:BS l V g):
  CP 145 #[.slice Z q ax,.func (.func 146) #[] #[],U.val,V.val] l fun i B=>∃u:dj,i=.returned u.val/\B.ownsRow l.heap.size 138 1 u.val (Qz a f g h q).length ((Qz a f g h q).map Cj)/\Below l.heap.size l B:=by
 have Y:Hd (∀(wr:World),BB l wr->∀b (ai:b<q) (ak:b<a.length),∃E u o,Z=some ⟨E,u,none⟩/\h.getD b 0=o/\wr.cell? ⟨E,u+b,none⟩=some (.pointer (some ⟨o,0,none⟩))/\
   ∃e:dj,(CP 146 #[.pointer (some ⟨o,0,none⟩)] wr fun i B=>i=.returned e.val/\B=wr)/\BS wr e a[b].key):=fun wr m b ai ak=>by
  obtain⟨E,u,aB,aD,a2⟩:=jj.ptr ap b (by omega);obtain⟨N,aP,a5,T⟩:=ah b (by omega) ak;refine⟨E,u,h[b]'(by omega),aB,by simp[iaj,show b<h.length by omega],?_,N,?_,T.below m⟩
  .rw[m.cell (p:=⟨E,u+b,none⟩) aD];exact a2
  .refine eK _ N wr ?_;rw[m.cell (p:=⟨h[b]'(by omega),0,none⟩) a5];exact aP
 have W:Hd (∀(wr:World),BB l wr->∀(e:dj) (A:List UInt8),BS wr e A->CP 63 #[e.val,U.val] wr fun i B=>i=.returned (.int .i64 (Lib.compareBytes A f))/\B=wr):=fun wr m e A C=>Hv e U A f wr C (ad.below m);have X:Hd (∀(wr:World),BB l wr->∀(e:dj) (A:List UInt8),BS wr e A->CP 63 #[e.val,V.val] wr fun i B=>i=.returned (.int .i64 (Lib.compareBytes A g))/\B=wr):=fun wr m e A C=>Hv e V A g wr C (ae.below m);have av:Hd (q=a.length):=an;have bc:q<=200:=by omega
 have bd:(q:Int)<=200:=by omega
 have ab:Hd (∀o:Nat,∀au∈[Value.pointer (some ⟨o,0,none⟩)],au.oneCell'=true):=fun o au ar=>by simp at ar;subst ar;rfl
 clear ap ah an aO aA ad ae;unfold dj.val at W X⊢;go_enter Tryz.func145,Tryz.ntmps145;go_wp2
 go_loopw [9,10,11,12,15] (fun aS _ _ _ a8 wr=>∃(b:Nat) (u:dj),b<=q/\a8=.int .i64 b/\aS=u.val/\Hd (wr.ownsRow l.heap.size 138 1 u.val (Qz a f g h b).length ((Qz a f g h b).map Cj))/\Below l.heap.size l wr) (fun _ _ _ _ a8 _=>q - (intOf a8).toNat)
 case atStart=>exact⟨0,⟨none,0,0⟩,by omega,by simp,rfl,iN _ _ _ _,VM _ _⟩
 case round=>
  obtain⟨b,r,ai,rfl,rfl,H,m⟩:=hrel;by_cases a5:b<q
  .have ba:(b:Int)<q:=by omega
   have a4:b<a.length:=by have:=av.o;omega
   obtain⟨E,u,o,rfl,ao,a2,e,al,T⟩:=Y.o wr m b a5 a4;have F:Hd (Calls _ _ _ _ _):=al;have G:Hd (Calls _ _ _ _ _):=W.o wr m e _ T;have b1:=aw a[b].key f;have Q:Hd ((wr.alloc (.cells #[.pointer (some ⟨o,0,none⟩)] 138)).ownsRow l.heap.size 138 1 (.slice r.a r.n r.cap) (Qz a f g h b).length ((Qz a f g h b).map Cj)):=H.o.alloc _;have D:Hd (BB l (wr.alloc (.cells #[.pointer (some ⟨o,0,none⟩)] 138))):=m.alloc m.size _;have R:Hd ((Qz a f g h b).length<=200):=by have:=FV a f g h b;unfold Hd;omega
   have ac:Hd (h.getD b 0=o):=ao;clear al T ao;unfold dj.val at F G⊢;cases b with
   |zero=>
    rw[eaj]at a2;have I:=fun z w=>wG (fr:=f) (tu:=g) (c:=z) a4 w;generalize w:Lib.compareBytes a[0].key f=z at*;have v:=I z rfl;clear I;by_cases J:0<=z
    .have y:Hd (gq a 0 f g=true):=by unfold Hd;rw[v];simp[J]
     clear v w;go_wp2_with (first
      |(go_at_call_of 146 (Value.pointer (some ⟨o,0,none⟩));refine F.o.mono ?_;rintro i s ⟨rfl,j⟩;obtain rfl:wr=s:=j.symm;clear j)
      |(go_at_call_of 63 (Value.slice e.a e.n e.cap);refine G.o.mono ?_;rintro i t ⟨rfl,k⟩;obtain rfl:wr=t:=k.symm;clear k)
      |(at_builtin;refine rq (by rfl) (.tmp 43) (.tmp 45) 128 (by rfl) l.heap.size 138 _ 1 8 Tryz.underlying128 Tryz.infoNodeP rfl (by decide) (.slice r.a r.n r.cap) (Qz a f g h 0).length ((Qz a f g h 0).map Cj) (by rfl) Q.o (some ⟨wr.heap.size,0,none⟩) 1 1 [.pointer (some ⟨o,0,none⟩)] (by rfl) rfl (jj.alloc_new wr _ _) (fun C=>by cases C) (ab.o o) (by have:=R.o;unfold maxLen;omega) (by have:=R.o;omega) D.o.size ?_;intro aT b0 L a3 aC;obtain⟨a0,a1,a7,_⟩:=Nj L;subst a7))
     refine⟨⟨0+1,⟨a0,_,a1⟩,by omega,by go_num,rfl,?_,D.o.trans (a3.below D.o.size (fun aa a6=>(Q.o.lt aa a6).1))⟩,by simp[intOf];omega⟩;unfold Hd;rw[EV _ _ _ _ _ y.o,XM,rN,ac.o];exact L
    .have y:Hd (gq a 0 f g=false):=by unfold Hd;rw[v];simp[J]
     clear v w;go_wp2_with (first
      |(go_at_call_of 146 (Value.pointer (some ⟨o,0,none⟩));refine F.o.mono ?_;rintro i s ⟨rfl,j⟩;obtain rfl:wr=s:=j.symm;clear j)
      |(go_at_call_of 63 (Value.slice e.a e.n e.cap);refine G.o.mono ?_;rintro i t ⟨rfl,k⟩;obtain rfl:wr=t:=k.symm;clear k))
     refine⟨⟨0+1,r,by omega,by go_num,rfl,?_,m⟩,by simp[intOf];omega⟩;unfold Hd;rw[WX _ _ _ _ _ y.o];exact H.o
   |succ n=>
    have aI:n<a.length:=by omega
    obtain⟨b3,be,a9,aE,aR,b6,x,am,af⟩:=Y.o wr m n (by omega) aI;cases aE;have O:Hd (Calls _ _ _ _ _):=am;have P:Hd (Calls _ _ _ _ _):=X.o wr m x _ af;have b2:=aw a[n].key g;have b7:((n:Int)+1==0)=false:=by simp;omega
    have b8:(n:Int)+1 - 1=n:=by omega
    have b9:(n:Int)<q:=by omega
    clear am af aR;unfold dj.val at O P;have I:=fun z S w K=>xG (fr:=f) (tu:=g) (c:=z) (d:=S) a4 K w;generalize w:Lib.compareBytes a[n+1].key f=z at*;generalize K:Lib.compareBytes a[n].key g=S at*;have v:=I z S rfl rfl;clear I;clear Y W X;have bb:(n:Int)+1<q:=by omega
    by_cases ag:S<0
    .by_cases J:0<=z
     .have y:Hd (gq a (n+1) f g=true):=by unfold Hd;rw[v];simp[J,ag]
      clear v w K;go_wp2_with (first
       |(go_at_call_of 146 (Value.pointer (some ⟨a9,0,none⟩));refine O.o.mono ?_;rintro i s ⟨rfl,j⟩;obtain rfl:wr=s:=j.symm;clear j)
       |(go_at_call_of 63 (Value.slice x.a x.n x.cap);refine P.o.mono ?_;rintro i t ⟨rfl,k⟩;obtain rfl:wr=t:=k.symm;clear k)
       |(go_at_call_of 146 (Value.pointer (some ⟨o,0,none⟩));refine F.o.mono ?_;rintro i s ⟨rfl,j⟩;obtain rfl:wr=s:=j.symm;clear j)
       |(go_at_call_of 63 (Value.slice e.a e.n e.cap);refine G.o.mono ?_;rintro i t ⟨rfl,k⟩;obtain rfl:wr=t:=k.symm;clear k)
       |(at_builtin;refine rq (by rfl) (.tmp 43) (.tmp 45) 128 (by rfl) l.heap.size 138 _ 1 8 Tryz.underlying128 Tryz.infoNodeP rfl (by decide) (.slice r.a r.n r.cap) (Qz a f g h (n+1)).length ((Qz a f g h (n+1)).map Cj) (by rfl) Q.o (some ⟨wr.heap.size,0,none⟩) 1 1 [.pointer (some ⟨o,0,none⟩)] (by rfl) rfl (jj.alloc_new wr _ _) (fun C=>by cases C) (ab.o o) (by have:=R.o;unfold maxLen;omega) (by have:=R.o;omega) D.o.size ?_;intro aT b0 L a3 aC;obtain⟨a0,a1,a7,_⟩:=Nj L;subst a7))
      refine⟨⟨n+1+1,⟨a0,_,a1⟩,by omega,by go_num,rfl,?_,D.o.trans (a3.below D.o.size (fun aa a6=>(Q.o.lt aa a6).1))⟩,by simp[intOf];omega⟩;unfold Hd;rw[EV _ _ _ _ _ y.o,XM,rN,ac.o];exact L
     .have y:Hd (gq a (n+1) f g=false):=by unfold Hd;rw[v];simp[J]
      clear v w K;go_wp2_with (first
       |(go_at_call_of 146 (Value.pointer (some ⟨a9,0,none⟩));refine O.o.mono ?_;rintro i s ⟨rfl,j⟩;obtain rfl:wr=s:=j.symm;clear j)
       |(go_at_call_of 63 (Value.slice x.a x.n x.cap);refine P.o.mono ?_;rintro i t ⟨rfl,k⟩;obtain rfl:wr=t:=k.symm;clear k)
       |(go_at_call_of 146 (Value.pointer (some ⟨o,0,none⟩));refine F.o.mono ?_;rintro i s ⟨rfl,j⟩;obtain rfl:wr=s:=j.symm;clear j)
       |(go_at_call_of 63 (Value.slice e.a e.n e.cap);refine G.o.mono ?_;rintro i t ⟨rfl,k⟩;obtain rfl:wr=t:=k.symm;clear k))
      refine⟨⟨n+1+1,r,by omega,by go_num,rfl,?_,m⟩,by simp[intOf];omega⟩;unfold Hd;rw[WX _ _ _ _ _ y.o];exact H.o
    .have y:Hd (gq a (n+1) f g=false):=by unfold Hd;rw[v];simp[ag]
     clear v w K;go_wp2_with (first
      |(go_at_call_of 146 (Value.pointer (some ⟨a9,0,none⟩));refine O.o.mono ?_;rintro i s ⟨rfl,j⟩;obtain rfl:wr=s:=j.symm;clear j)
      |(go_at_call_of 63 (Value.slice x.a x.n x.cap);refine P.o.mono ?_;rintro i t ⟨rfl,k⟩;obtain rfl:wr=t:=k.symm;clear k))
     refine⟨⟨n+1+1,r,by omega,by go_num,rfl,?_,m⟩,by simp[intOf];omega⟩;unfold Hd;rw[WX _ _ _ _ _ y.o];exact H.o
  .obtain rfl:b=q:=by omega
   unfold dj.val;go_wp2;go_ret;exact⟨r,rfl,H.o,m⟩
theorem yz.node{e:List (List (List ej))}{k:List (List Nd)}(m:yz e k){b a:Nat}{f:List Nd}{g:Nd}(n:k[b]? =some f)(h:f[a]? =some g):g.level=b/\g.its=Nq (yj e b a)/\∃c,e[b]? =some c/\c[a]? =some (yj e b a)/\f.length=c.length:=by
 have d:=congrArg (fun j=>j[b]?) m.its;simp only[zN,n,GN]at d;cases i:e[b]? with
 |none=>rw[i]at d;cases d
 |some c=>
  rw[i]at d;simp only[GN,yN]at d;have p:f.length=c.length:=by simpa using congrArg List.length d
  have q:=(kN.1 h).1;have l:=congrArg (fun j=>j[a]?) d;simp only[zN,h,GN,UM (by omega:a<c.length),yN]at l;have o:yj e b a=c[a]'(by omega):=by
   unfold yj;rw[i];simp[show a<c.length by omega]
  exact⟨m.lev b f n g (mN h),by rw[o];exact l,c,rfl,by rw[o];exact UM (by omega),p⟩
theorem yz.low'{h:List (List (List ej))}{c:List (List Nd)}(d:yz h c){g:Nat}{a:List Nd}{b:Nd}(e:c[0]? =some a)(f:a[g]? =some b):b.bl=[]:=d.low a e b (mN f)
theorem yz.down{b:List (List (List ej))}{c:List (List Nd)}(g:yz b c)(B:Wx b){a d:Nat}{o:List Nd}{p:Nd}(j:c[a+1]? =some o)(t:o[d]? =some p):
  p.bl.length=(yj b (a+1) d).length/\∀e (h:e<(yj b (a+1) d).length),∃(x:List Nd) (q:Nd),c[a]? =some x/\x[Tq (yj b (a+1) d) e]? =some q/\p.bl[e]? =some q.b/\cz q.its=(yj b (a+1) d)[e].key:=by
 obtain⟨_,_,y,i,w,H⟩:=g.node j t;have G:a<c.length:=by have:=(kN.1 j).1;omega
 have f:c[a]? =some c[a]:=UM G;have C:=g.bel a c[a] o y f j i;have k:=congrArg (fun n=>n[d]?) C;simp only[zN,t,w,GN,yN]at k;refine⟨by rw[k,FN],fun e h=>?_⟩;have F:=mN w;have l:b[a]? =some (b[a]'(by have:=(kN.1 i).1;omega)):=UM _;obtain⟨v,E⟩:=B.bel a _ y l i _ F _ (bN h);have D:Tq (yj b (a+1) d) e=(yj b (a+1) d)[e].below:=by unfold Tq;rw[UM h];rfl
 have u:c[a].length=(b[a]'(by have:=(kN.1 i).1;omega)).length:=by
  have r:=congrArg (fun n=>n[a]?) g.its;simp only[zN,f,l,GN,yN]at r;simpa using congrArg List.length r
 have m:c[a][(yj b (a+1) d)[e].below]? =some (c[a][(yj b (a+1) d)[e].below]'(by rw[u];exact v)):=UM _;refine⟨c[a],c[a][(yj b (a+1) d)[e].below]'(by rw[u];exact v),f,by rw[D];exact m,?_,?_⟩
 .rw[k,zN,UM h];simp only[GN];rw[m];rfl
 .obtain⟨_,z,I,s,A,_⟩:=g.node f m;rw[z,MX,E];rw[l]at s;cases s;rw[A];rfl
def dZ(d:List ej)(a e:List UInt8)(c:Nat):List Nat:=(List.range c).filter (fun b=>gq d b a e)
theorem GV{f:Type}(b:Nat->Bool)(c:Nat->List f):∀(a:List Nat),a.flatMap (fun d=>if b d=true then c d else[])=(a.filter b).flatMap c
 |[]=>rfl
 |e::a=>by
  rw[JN,GV b c a,List.filter_cons];cases g:b e<;>simp
theorem XX(c:List ej)(b d:List UInt8)(e:List Nat)(f:Nat):Qz c b d e f=(dZ c b d f).map (fun a=>e.getD a 0):=by
 unfold Qz dZ;rw[GV (fun a=>gq c a b d) (fun a=>[e.getD a 0])];generalize (List.range f).filter (fun a=>gq c a b d)=g
 induction g with
 |nil=>rfl
 |cons i g h=>rw[JN,h];rfl
theorem xY(e:List (List (List ej)))(a c:List UInt8)(f:Nat)(b:List ej)(g:Nat):fz e a c f b g=(dZ b a c g).flatMap (fun d=>Gq e a c f (yj e f (Tq b d))):=GV (fun d=>gq b d a c) _ _
theorem fM{e:List ej}{d f:List UInt8}{c b:Nat}(a:b∈dZ e d f c):b<c:=by
 unfold dZ at a;simpa using(List.mem_filter.1 a).1
structure lw(w:World)(base:Nat)(L:List (List Nd)):Prop where
 ok:∀nds∈L,∀x∈nds,uq w x
 lo:∀nds∈L,∀x∈nds,∀k,Sq x k->k<base
theorem lw.below{w w':World}{b:Nat}{e:List (List Nd)}(d:lw w b e)(c:Below b w w')(k:w.heap.size<=w'.heap.size):lw w' b e:=
 ⟨fun i g j h=>(d.ok i g j h).frame (S:=fun a=>b<=a) ⟨c.os,c.tape,c.output,k,fun a _ f=>c.block a (by omega)⟩ (fun a f l=>by have:=d.lo i g j h a f;omega),d.lo⟩
structure Ik(w:World)(base:Nat)(s:dj)(l:List UInt8):Prop where
 bs:BS w s l
 lo:∀x,s.a=some x->x.block<base
theorem Ik.below{w w':World}{a:Nat}{f:dj}{e:List UInt8}(c:Ik w a f e)(b:Below a w w')(g:w.heap.size<=w'.heap.size):Ik w' a f e:=
 ⟨c.bs.frame (S:=fun d=>a<=d) ⟨b.os,b.tape,b.output,g,fun d _ k=>b.block d (by omega)⟩ (fun i h j=>by have:=c.lo i h;omega),c.lo⟩
theorem oU(a:Int):IntKind.u8.wrap a=a%256:=by
 simp[IntKind.wrap,IntKind.bits,IntKind.signed]
theorem aj.cellP{e:World}{b h:Nat}{c:List Value}(f:aj e b h c)(a:Nat)(d:Value)(g:c[a]? =some d):e.cell? ⟨b,a,none⟩=some d:=by
 rw[f.cell? a];exact g
attribute [local go_sem↓] Go.wp_at_zero Go.wp_at_succ
theorem YX(t:List (List Nd))(u v:dj)(o q:List UInt8)(b:Nd)(e:dj)(p f:List UInt8)(k:List ej)(l:List (List UInt8))(g:Nat)(h:World)(S:lw h g t)(c7:∃y∈t,b∈y)(a8:Ik h g u o)(a9:Ik h g v q)(U:g<=h.heap.size)(N:rj h g e.val p)
  (T:Gj b.level b.its=f)(ck:f.length<=6000)(V:k.length=b.bl.length)(ax:k.length<=200)(aS:∀(d:World),lw d g t->∀P (x:P<b.bl.length) (G:P<k.length),∃bb:dj,d.cell? ⟨b.bl[P],0,none⟩=some bb.val/\b.bl[P]<d.heap.size/\BS d bb k[P].key)
  (b2:l.length=(Qz k o q b.bl k.length).length)(b3:p.length+2+f.length+l.flatten.length<=140737488355328)
  (b8:∀(i:Nat) (af:i<(Qz k o q b.bl k.length).length) (c5:i<l.length) (r:dj) (X:List UInt8) (d:World),lw d g t->Ik d g u o->Ik d g v q->g<=d.heap.size->rj d g r.val X->X.length+l[i].length<=140737488355328->
   CP 126 #[r.val,.pointer (some ⟨(Qz k o q b.bl k.length)[i],0,none⟩),u.val,v.val] d fun m A=>∃B:dj,m=.returned B.val/\rj A g B.val (X++l[i])/\bj (fun c=>r.val.ownBlock=some c) d A/\(∀c,B.val.ownBlock=some c->c<d.heap.size->r.val.ownBlock=some c)):
  CP 126 #[e.val,.pointer (some ⟨b.b,0,none⟩),u.val,v.val] h fun m A=>∃B:dj,m=.returned B.val/\rj A g B.val (p++(bt (f.length/256)::bt (f.length%256)::f)++l.flatten)/\bj (fun c=>e.val.ownBlock=some c) h A/\(∀c,B.val.ownBlock=some c->c<h.heap.size->e.val.ownBlock=some c):=by
 obtain⟨y,I,J⟩:=c7;have cf:Hd (∀d,lw d g t->uq d b):=fun d w=>w.ok y I b J;have W:=S.ok y I b J;have L:=W.by_;rw[T]at L;have cn:(b.by_.n:Int)<=6000:=by rw[L.n];omega
 have ch:h.cell? ⟨b.b,1,none⟩=some (.slice b.by_.a b.by_.n b.by_.cap):=W.row.cellP 1 _ (by simp[CZ,dj.val]);have bA:Hd (b.by_.n=f.length):=L.n;unfold dj.val at N;have a7:Below h.heap.size h (h.alloc (.cells #[.int .u8 (IntKind.u8.wrap ((b.by_.n:Int)/256)),.int .u8 (IntKind.u8.wrap (b.by_.n:Int))] 5)).drew:=by
  have O:Below h.heap.size h (h.alloc (.cells #[.int .u8 (IntKind.u8.wrap ((b.by_.n:Int)/256)),.int .u8 (IntKind.u8.wrap (b.by_.n:Int))] 5)):=tO;exact⟨O.os,O.tape,O.output,O.size,O.block⟩
 have bo:Hd ((h.alloc (.cells #[.int .u8 (IntKind.u8.wrap ((b.by_.n:Int)/256)),.int .u8 (IntKind.u8.wrap (b.by_.n:Int))] 5)).drew.ownsRow g 5 1 (.slice e.a e.n e.cap) p.length (p.map fj)):=lj N a7;have bf:Hd ([bt (f.length/256),bt (f.length%256)].map fj=[.int .u8 (IntKind.u8.wrap ((b.by_.n:Int)/256)),.int .u8 (IntKind.u8.wrap (b.by_.n:Int))]):=by
  unfold Hd;simp only[ZM,dN];rw[Uk (by omega),Uk (by omega),L.n,oU,oU];simp;omega
 have bw:Hd (jj (h.alloc (.cells #[.int .u8 (IntKind.u8.wrap ((b.by_.n:Int)/256)),.int .u8 (IntKind.u8.wrap (b.by_.n:Int))] 5)).drew (some ⟨h.heap.size,0,none⟩) ([bt (f.length/256),bt (f.length%256)].map fj)):=by
  unfold Hd;rw[bf.o];exact jj.alloc_new h _ _
 have Y:Hd (BB h (h.alloc (.cells #[.int .u8 (IntKind.u8.wrap ((b.by_.n:Int)/256)),.int .u8 (IntKind.u8.wrap (b.by_.n:Int))] 5)).drew):=a7;have R:Hd (p.length+2+f.length+l.flatten.length<=140737488355328):=b3;have bg:Hd (g<=h.heap.size):=U;have cd:Hd (∀c,(Value.slice e.a e.n e.cap).ownBlock=some c->g<=c/\c<h.heap.size):=N.lt;have ca:Hd (lw h g t):=S;have cc:Hd (Ik h g u o):=a8;have ce:Hd (Ik h g v q):=a9;have cb:Hd (Gj b.level b.its=f):=T;have Z:Hd (∀d,bj (fun c=>(Value.slice e.a e.n e.cap).ownBlock=some c) h d->lw d g t/\Ik d g u o/\Ik d g v q/\g<=d.heap.size):=fun d M=>by
  have ab:Below g h d:=M.below U (fun c n=>(N.lt c n).1);exact⟨S.below ab M.size,a8.below ab M.size,a9.below ab M.size,WM U M.size⟩
 have bk:Hd (∀d,lw d g t->d.cell? ⟨b.b,1,none⟩=some (.slice b.by_.a b.by_.n b.by_.cap)):=fun d w=>(w.ok y I b J).row.cellP 1 _ (by simp[CZ,dj.val]);have bl:Hd (∀d,lw d g t->d.cell? ⟨b.b,10,none⟩=some (.slice b.be.a b.be.n b.be.cap)):=fun d w=>(w.ok y I b J).row.cellP 10 _ (by simp[CZ,dj.val,Lj]);have bi:Hd (∀d,lw d g t->jq d b.by_.a f):=fun d w=>by
  have:=(w.ok y I b J).by_.sl;rw[T]at this;exact this
 have bh:Hd (b.by_.a=none->b.by_.cap=0):=W.by_.nil;have bO:Hd (∀d,lw d g t->Ik d g u o->Ik d g v q->CP 145 #[.slice b.be.a b.be.n b.be.cap,.func (.func 146) #[] #[],.slice u.a u.n u.cap,.slice v.a v.n v.cap] d fun m A=>∃j:dj,m=.returned (.slice j.a j.n j.cap)/\A.ownsRow d.heap.size 138 1 (.slice j.a j.n j.cap) (Qz k o q b.bl k.length).length ((Qz k o q b.bl k.length).map Cj)/\Below d.heap.size d A):=fun d x G a4=>by
  have ag:=x.ok y I b J;have:=AW b.be.a b.be.n b.be.cap b.bl k u v o q d (by rw[ag.ben,V]) V ax ag.be (aS d x) G.bs a4.bs;rw[show b.be.n=k.length by rw[ag.ben,V]]at this⊢;exact this
 have am:Hd (l.length=(Qz k o q b.bl k.length).length):=b2;have bv:Hd (∀(i:Nat) (af:i<(Qz k o q b.bl k.length).length) (c5:i<l.length) (r:dj) (X:List UInt8) (d:World),_):=b8;have bB:Hd ((Qz k o q b.bl k.length).length<=200):=by have:=FV k o q b.bl k.length;unfold Hd;omega
 generalize Qz k o q b.bl k.length=z at*;clear a7 L W S a8 a9 b3 U T N b2 b8 V aS ax;unfold dj.val;go_enter Tryz.func126,Tryz.ntmps126;go_wp2
 go_region_held3 (fun d=>d.cell? ⟨b.b,1,none⟩=some (.slice b.by_.a b.by_.n b.by_.cap)) (go_keep)
  ((refine cq (by rfl) (.tmp 11) (.tmp 25) 38 (by rfl) g 5 _ 1 1 Tryz.underlying38 Tryz.infoU8 rfl (by decide) (.slice e.a e.n e.cap) p.length (p.map fj) (by rfl) bo.o ⟨h.heap.size,0,none⟩ 2 2 ([bt (f.length/256),bt (f.length%256)].map fj) (by rfl) rfl bw.o (gx _) (by have:=R.o;unfold maxLen;omega) (by have:=R.o;omega) (WM bg.o Y.o.size) ?_;intro a3 ak ai C b4 aT aI;have ac:=bj.trans (bj.of_below_all Y.o) aT;obtain⟨a5,bP,bR,aP⟩:=Z.o C ac;have ci:=bk.o C a5))
 have bp:Hd (rj C g (.slice a3 ak ai) (p++[bt (f.length/256),bt (f.length%256)])):=by
  unfold Hd rj;rw[XM,rN];exact b4
 have av:Hd (∀c,(Value.slice a3 ak ai).ownBlock=some c->c<h.heap.size->(Value.slice e.a e.n e.cap).ownBlock=some c):=fun c n H=>by
  rcases aI with m|m
  .rw[<-m];exact n
  .rw[m]at n;have:=lN n;have:=Y.o.size;simp at*;omega
 have an:Hd (bj (fun c=>(Value.slice e.a e.n e.cap).ownBlock=some c) h C):=ac;have be:Hd (g<=C.heap.size):=aP;have c4:=bi.o C a5;clear b4 aT aI ac bP bR aP a5;go_wp2_with (at_builtin;refine Hq (by rfl) (.tmp 27) (.tmp 31) (by rfl) g _ (p++[bt (f.length/256),bt (f.length%256)]) (by rfl) bp.o b.by_.a b.by_.n b.by_.cap f (by rfl) bA.o c4 bh.o (by have:=R.o;simp;omega) be.o ?_;intro E K F D c0 b5 c3 b0 aO;clear c0 c3;have br:Hd (rj D g (.slice E K F) (p++[bt (f.length/256),bt (f.length%256)]++f)):=b5;have ao:Hd (bj (fun c=>(Value.slice e.a e.n e.cap).ownBlock=some c) h D):=bj.inside an.o b0 (fun c H n=>av.o c n H);have bd:Hd ((Value.slice E K F).ownBlock=(Value.slice a3 ak ai).ownBlock\/(Value.slice E K F).ownBlock=some C.heap.size):=aO;clear b5 b0 aO;obtain⟨a6,aB,aD,bS⟩:=Z.o D ao.o;have cj:=bl.o D a6;have bI:Hd (Calls _ _ _ _ _):=bO.o D a6 aB aD;clear a6 aB aD bS);have bD:Hd (∀c,(Value.slice E K F).ownBlock=some c->c<h.heap.size->(Value.slice e.a e.n e.cap).ownBlock=some c):=fun c n H=>by
  rcases bd.o with m|m
  .exact av.o c (by rw[<-m];exact n) H
  .rw[m]at n;have x:=lN n;have G:=an.o.size;omega
 refine bI.o.mono ?_;rintro m al ⟨j,rfl,ae,aa⟩;have b7:j.n=z.length:=(vj (a:=j.a) (n':=j.n) (cap:=j.cap) ae).1;have ap:Hd (j.n=z.length):=b7;have c2:(j.n:Int)<=200:=by have:=bB.o;omega
 have bs:Hd (rj al g (.slice E K F) (p++[bt (f.length/256),bt (f.length%256)]++f)):=lj br.o aa;have bm:Hd (bj (fun c=>(Value.slice e.a e.n e.cap).ownBlock=some c) h al):=ao.o.trans (bj.of_below_all aa);have bu:Hd (al.ownsRow D.heap.size 138 1 (.slice j.a j.n j.cap) z.length (z.map Cj)):=ae;clear ae aa b7;go_wp2
 go_loopw [0,10,41] (fun c9 _ ah wr=>∃(i:Nat) (r:dj),i<=j.n/\ah=.int .i64 i/\c9=r.val/\Hd (rj wr g r.val (p++[bt (f.length/256),bt (f.length%256)]++f++(l.take i).flatten))/\Hd (bj (fun c=>(Value.slice e.a e.n e.cap).ownBlock=some c) h wr)/\Hd (wr.ownsRow D.heap.size 138 1 (.slice j.a j.n j.cap) z.length (z.map Cj))/\Hd (∀c,r.val.ownBlock=some c->c<h.heap.size->(Value.slice e.a e.n e.cap).ownBlock=some c)) (fun _ _ ah _=>j.n - (intOf ah).toNat)
 case atStart=>exact⟨0,⟨E,K,F⟩,by omega,by simp,rfl,by unfold Hd;rw[List.take_zero,List.flatten_nil,XN];exact bs.o,bm,bu,bD⟩
 case round=>
  obtain⟨i,r,af,rfl,rfl,a0,Q,a1,a2⟩:=hrel;by_cases H:i<j.n
  .have bT:(i:Int)<j.n:=by omega
   have ba:i<z.length:=by have:=ap.o;omega
   have b9:i<l.length:=by have:=am.o;omega
   obtain⟨cg,cs,b6,cl,cm⟩:=jj.ptr (jj.ofOwn (s:=j) a1.o).1 i ba;obtain⟨aA,aC,aE,aR⟩:=Z.o wr Q.o;have au:Hd ((l.take (i+1)).flatten=(l.take i).flatten++l[i]):=by
    unfold Hd;rw[RN b9,List.flatten_append];simp
   have bn:Hd ((p++[bt (f.length/256),bt (f.length%256)]++f++(l.take i).flatten).length+l[i].length<=140737488355328):=by
    have x:=R.o;have G:=congrArg List.length au.o;have a4:((l.take (i+1)).flatten).length<=l.flatten.length:=by
     have w:=congrArg (fun c8=>c8.flatten.length) (Naj (i+1) l);simp only[List.flatten_append,XM]at w;omega
    rw[XM]at G;unfold Hd;simp only[XM,uN,baj]at x G a4⊢;omega
   have ar:Hd (Calls _ _ _ _ _):=bv.o i ba b9 r _ wr aA aC aE aR a0.o bn.o;generalize z[i]=cu at*;obtain⟨co,cr,cp⟩:=j;simp only at b6 bT af H c2;subst b6;clear aA aC aE aR;unfold dj.val at ar⊢;go_wp2_with (go_at_call 126;refine ar.o.mono ?_;rintro m ct ⟨bc,rfl,c1,b1,c6⟩);have bE:Hd (∀c,bc.val.ownBlock=some c->c<h.heap.size->(Value.slice e.a e.n e.cap).ownBlock=some c):=fun c n ad=>a2.o c (c6 c n (by have:=Q.o.size;omega)) ad;refine⟨⟨i+1,bc,by omega,by go_num,rfl,?_,?_,?_,bE⟩,by simp[intOf];omega⟩
   .unfold Hd;rw[au.o,<-NN];exact c1
   .exact bj.inside Q.o b1 (fun c ad n=>a2.o c n ad)
   .exact ij a1.o b1 (fun c n m=>Dv a1.o a0.o (by decide) c n m)
  .obtain rfl:i=j.n:=by omega
   have bC:Hd (l.take j.n=l):=by unfold Hd;rw[ap.o,<-am.o,raj]
   unfold dj.val;go_wp2;go_ret;refine⟨r,rfl,?_,Q.o,a2.o⟩;have x:=a0.o;rw[bC.o]at x;have m:p++(bt (f.length/256)::bt (f.length%256)::f)++l.flatten=p++[bt (f.length/256),bt (f.length%256)]++f++l.flatten:=by simp
   rw[m];exact x
end
section
structure gv(lvls:List Av)(n j:Nat)(s:dj)(ps:List (dj×List ej))(q:dj×List ej):Prop where
 lv:lvls[n]? =some (s,ps)
 pg:ps[j]? =some q
theorem gv.page{a:List Av}{b f:Nat}{h:dj}{c:List (dj×List ej)}{g:dj×List ej}(e:gv a b f h c g):yj (pz a) b f=g.2/\(pz a)[b]? =some (c.map (·.2)):=by
 have d:(pz a)[b]? =some (c.map (·.2)):=by
  unfold pz;rw[zN,e.lv];rfl
 refine⟨?_,d⟩;unfold yj;rw[d];simp[e.pg]
theorem gv.ok{c:List Av}{d b:Nat}{h:dj}{g:List (dj×List ej)}{a:dj×List ej}(e:gv c d b h g a)(f:Wx (pz c)):a.2.length<=60/\(∀i∈a.2,Dq i)/\Kz a.2:=by
 have:=Gz f d b;rw[e.page.1]at this;exact this
theorem gv.sl{d:List Av}{n i:Nat}{l:dj}{k:List (dj×List ej)}{a:dj×List ej}(b:gv d n i l k a){e:World}{f:Nat}{j:dj}(g:bJ e f j d):Aq e a.1.a a.2/\a.1.n=a.2.length:=by
 have h:=(kN.1 b.lv).1;have c:=g.ok n h;rw[(kN.1 b.lv).2]at c;exact jj.ofOwn (s:=a.1) (c.2 a (mN b.pg))
theorem gv.down{c:List Av}{a o:Nat}{q:dj}{p:List (dj×List ej)}{b:dj×List ej}(h:gv c (a+1) o q p b)(k:Wx (pz c))(e:Nat)(l:e<b.2.length):∃f d m,gv c a (b.2[e].below) f d m/\yj (pz c) a (Tq b.2 e)=m.2/\d.length<=61:=by
 have r:=(kN.1 h.lv).1;obtain⟨f,d,g⟩:∃f d,c[a]? =some (f,d):=⟨(c[a]'(by omega)).1,(c[a]'(by omega)).2,by rw[UM (by omega)]⟩;have j:(pz c)[a]? =some (d.map (·.2)):=by
  unfold pz;rw[zN,g];rfl
 have i:=(k.bel a _ _ j h.page.2 b.2 (mN (by rw[zN,h.pg];rfl)) b.2[e] (bN l)).1;rw[FN]at i;refine⟨f,d,d[b.2[e].below],⟨g,UM i⟩,?_,by have:=k.cnt a _ j;simpa using this⟩;have n:Tq b.2 e=b.2[e].below:=by unfold Tq;rw[UM l];rfl
 rw[n];exact(gv.page ⟨g,UM i⟩).1
structure Pv(w:World)(T P:List Value)(W:World):Prop where
 bel:Below w.heap.size w W
 tr:aj W w.heap.size 146 T
 pg:aj W (w.heap.size+1) 80 P
theorem Pv.next{g b f:World}{e d:List Value}(a:Pv g e d b)(c:Below b.heap.size b f):Pv g e d f:=⟨a.bel.trans (c.mono a.bel.size),a.tr.below a.tr.lt c,a.pg.below a.pg.lt c⟩
theorem Pv.drew{e d:World}{c b:List Value}(a:Pv e c b d):Pv e c b d.drew:=⟨a.bel.drew,a.tr,a.pg⟩
theorem Pv.frame{g b j:World}{i h:List Value}{l:Value}{n:List UInt8}{k:Nat}(a:Pv g i h b)(e:rj b k l n)(o:g.heap.size<=k)(d:bj (fun f=>l.ownBlock=some f) b j):Pv g i h j:=
 ⟨a.bel.trans (d.below a.bel.size (fun f m=>by have:=(e.lt f m).1;omega)),a.tr.of_block (d.block _ a.tr.lt (fun c=>xj e a.tr (by decide) c)),a.pg.of_block (d.block _ a.pg.lt (fun c=>xj e a.pg (by decide) c))⟩
theorem BW{b:Nat}{c d:World}(a:Below b c.drew d):Below b c d:=⟨a.os,a.tape,a.output,a.size,a.block⟩
attribute [local go_sem↓] Go.wp_at_zero Go.wp_at_succ
theorem eZ(c:dj)(g:List Av)(a5:Nat)(h j:List UInt8)(Q:Wx (pz g)):∀(b ae:Nat) (ai:dj) (ah:List (dj×List ej)) (r:dj×List ej) (d:World),b<=6->bJ d a5 c g->gv g b ae ai ah r->
  CP 93 #[.agg #[.slice c.a c.n c.cap],.agg #[.int .i64 b,.slice r.1.a r.1.n r.1.cap],Hz h,Hz j] d fun o t=>∃v y w,o=.returned (.slice v y w)/\rj t d.heap.size (.slice v y w) (Gq (pz g) h j b r.2)/\Below d.heap.size d t
 |0,ae,ai,ah,r,d,ar,F,D=>by
  obtain⟨s,U⟩:=D.sl F;obtain⟨X,x,T⟩:=D.ok Q;obtain⟨⟨l,br,m⟩,a⟩:=r;simp only at s U X x T⊢;subst U;have C:Pv d [.slice c.a c.n c.cap] [.int .i64 0,.slice l a.length m] ((d.alloc (.cells #[.slice c.a c.n c.cap] 146)).alloc (.cells #[.int .i64 0,.slice l a.length m] 80)):=
   ⟨tO.alloc (by simp) _,(aj.new d _ _).alloc _,aj.new_at _ _ _ _ (by simp)⟩
  have O:Hd (Calls _ _ _ _ _):=oQ 0 l a.length m a _ rfl (by omega) (by omega) x (jj.below_all s C.bel);have bf:(a.length:Int)<=60:=by omega
  clear x T s;rw[show((0:Nat):Int)=0 from rfl]at O⊢;unfold Hz;go_enter Tryz.func93,Tryz.ntmps93;go_wp2_with fail;refine O.o.mono ?_;rintro o z ⟨A,E,B,rfl,L,R⟩;have Y:=C.next R;have bs:z.cell? ⟨d.heap.size+1,0,none⟩=some (.int .i64 0):=Y.pg.cell 0 (by simp);have bu:z.cell? ⟨d.heap.size+1,1,none⟩=some (.slice l a.length m):=Y.pg.cell 1 (by simp);have u:Hd (rj z d.heap.size (.slice A E B) (fq 0 a)):=Hj L (fun f Z=>by have:=(L.lt f Z).1;simp at this;omega);have al:Hd (BB d z):=Y.bel;clear L R Y C;go_wp2
  go_loopw [9,10,11,12] (fun a4 k _ _ wr=>a4=.slice A E B/\k=.int .i64 0/\wr=z) (fun _ _ _ _ _=>0)
  case atStart=>exact⟨rfl,rfl,rfl⟩
  case round=>
   obtain⟨rfl,rfl,rfl⟩:=hrel;by_cases bA:(0:Int)<a.length
   .go_wp2;go_ret;exact⟨A,E,B,rfl,u.o,al.o⟩
   .go_wp2;go_ret;exact⟨A,E,B,rfl,u.o,al.o⟩
 |b+1,ae,ai,ah,r,d,ar,F,D=>by
  obtain⟨s,U⟩:=D.sl F;obtain⟨X,x,T⟩:=D.ok Q;have aa:=D.down Q;have a1:=OJ Q h j (b+1) ar r.2 X x;obtain⟨⟨l,br,m⟩,a⟩:=r;simp only at s U X x T aa a1⊢;subst U;rw[Iw]at a1⊢;have a7:((b+1:Nat):Int)=(b:Int)+1:=by omega
  have C:Pv d [.slice c.a c.n c.cap] [.int .i64 ((b:Int)+1),.slice l a.length m] ((d.alloc (.cells #[.slice c.a c.n c.cap] 146)).alloc (.cells #[.int .i64 ((b:Int)+1),.slice l a.length m] 80)):=
   ⟨tO.alloc (by simp) _,(aj.new d _ _).alloc _,aj.new_at _ _ _ _ (by simp)⟩
  have O:Hd (Calls _ _ _ _ _):=oQ (b+1) l a.length m a ((d.alloc (.cells #[.slice c.a c.n c.cap] 146)).alloc (.cells #[.int .i64 ((b:Int)+1),.slice l a.length m] 80)) rfl (by omega) (by omega) x (jj.below_all s C.bel);have b7:Hd (∀(e:World) (k:Nat),BB d e->k<a.length->CP 127 #[.agg #[.int .i64 ((b:Int)+1),.slice l a.length m],.int .i64 k,.string ⟨h.toArray⟩,.string ⟨j.toArray⟩] e fun o t=>o=.returned (.bool (gq a k h j))/\Below e.heap.size e t):=fun e k q S=>by
   have:=LZ (b+1) l m a k S h j e (by omega) (jj.below_all s q);rw[a7]at this;exact this
  have aE:Hd (∀(e:World) (k:Nat) (S:k<a.length) (p:dj) (n:List (dj×List ej)) (i:dj×List ej),BB d e->gv g b a[k].below p n i->n.length<=61->CP 125 #[.agg #[.slice c.a c.n c.cap],.agg #[.int .i64 ((b:Int)+1),.slice l a.length m],.int .i64 k] e fun o t=>o=.returned (.agg #[.int .i64 b,.slice i.1.a i.1.n i.1.cap])/\Below e.heap.size e t):=fun e k S p n i q a0 bv=>
   gY c g a5 b p n l m a k S i e (F.below q) a0.lv (by omega) (by omega) (jj.below_all s q) (by omega) a0.pg
  have b1:Hd (∀(e:World) (af:Nat) (p:dj) (n:List (dj×List ej)) (i:dj×List ej),BB d e->gv g b af p n i->CP 93 #[.agg #[.slice c.a c.n c.cap],.agg #[.int .i64 b,.slice i.1.a i.1.n i.1.cap],.string ⟨h.toArray⟩,.string ⟨j.toArray⟩] e fun o t=>∃v y w,o=.returned (.slice v y w)/\rj t e.heap.size (.slice v y w) (Gq (pz g) h j b i.2)/\Below e.heap.size e t):=fun e af p n i q a0=>
   eZ c g a5 h j Q b af p n i e (by omega) (F.below q) a0
  have aO:Hd (∀(k:Nat) (S:k<a.length),∃p n i,gv g b a[k].below p n i/\yj (pz g) b (Tq a k)=i.2/\n.length<=61):=aa;have b6:Hd ((fq (b+1) a++fz (pz g) h j b a a.length).length<=100000000000000):=a1;have bf:(a.length:Int)<=60:=by omega
  have bw:(b:Int)<=6:=by omega
  rw[a7]at O⊢;clear x T s aa a1 a7 F D;unfold Hz;go_enter Tryz.func93,Tryz.ntmps93;go_wp2_with fail;refine O.o.mono ?_;rintro o z ⟨A,E,B,rfl,L,R⟩;have b3:Hd (Pv d [.slice c.a c.n c.cap] [.int .i64 ((b:Int)+1),.slice l a.length m] z):=C.next R;have aS:Hd (rj z (d.heap.size+2) (.slice A E B) (fq (b+1) a)):=by unfold Hd;simpa using L
  clear L R C;go_wp2
  go_loopw [9,10,11,12] (fun a4 k _ _ wr=>∃(f:Nat) (v:Option Addr) (y w:Nat),f<=a.length/\a4=.slice v y w/\k=.int .i64 f/\Hd (Pv d [.slice c.a c.n c.cap] [.int .i64 ((b:Int)+1),.slice l a.length m] wr)/\Hd (rj wr (d.heap.size+2) (.slice v y w) (fq (b+1) a++fz (pz g) h j b a f))) (fun _ k _ _ _=>a.length - (intOf k).toNat)
  case atStart=>exact⟨0,A,E,B,by omega,rfl,by simp,b3,by unfold Hd;rw[yW,XN];exact aS.o⟩
  case round=>
   obtain⟨f,a3,ag,a6,Z,rfl,rfl,P,u⟩:=hrel;have G:=P.o;have bl:wr.cell? ⟨d.heap.size+1,0,none⟩=some (.int .i64 ((b:Int)+1)):=G.pg.cell 0 (by simp);have bm:wr.cell? ⟨d.heap.size+1,1,none⟩=some (.slice l a.length m):=G.pg.cell 1 (by simp);by_cases ab:f<a.length
   .have bd:(f:Int)<a.length:=by omega
    have W:Hd (Calls _ _ _ _ _):=b7.o wr f G.bel ab;cases M:gq a f h j with
    |false=>
     rw[M]at W;have V:Hd (fz (pz g) h j b a (f+1)=fz (pz g) h j b a f):=uG _ _ _ _ _ _ M;clear G M;go_wp2_with (go_at_call 127;refine W.o.mono ?_;rintro o a2 ⟨rfl,K⟩);refine⟨⟨f+1,a3,ag,a6,by omega,rfl,by go_num,P.o.next K,?_⟩,by simp[intOf];omega⟩;unfold Hd;rw[V.o];exact lj u.o K
    |true=>
     rw[M]at W;have V:Hd (fz (pz g) h j b a (f+1)=fz (pz g) h j b a f++Gq (pz g) h j b (yj (pz g) b (Tq a f))):=VU _ _ _ _ _ _ M;obtain⟨p,n,i,ac,ad,bh⟩:=aO.o f ab;have b0:Hd (yj (pz g) b (Tq a f)=i.2):=ad;have aI:Hd (∀e,BB d e->Calls _ _ _ e _):=fun e q=>aE.o e f ab p n i q ac bh;have b2:Hd (∀e,BB d e->Calls _ _ _ e _):=fun e q=>b1.o e _ p n i q ac;have aP:Hd ((fq (b+1) a++fz (pz g) h j b a f).length+(Gq (pz g) h j b i.2).length<=140737488355328):=by
      have ba:=vG (pz g) h j b a (f+1) a.length (by omega);rw[V.o,ad,XM]at ba;have bb:=b6.o;unfold Hd;rw[XM]at bb⊢;omega
     clear G M ad ac;go_wp2_with (go_at_call 127;refine W.o.mono ?_;rintro o a2 ⟨rfl,K⟩;have H:=Pv.next P.o K;have bl:a2.cell? ⟨d.heap.size+1,0,none⟩=some (.int .i64 ((b:Int)+1)):=H.pg.cell 0 (by simp);have bm:a2.cell? ⟨d.heap.size+1,1,none⟩=some (.slice l a.length m):=H.pg.cell 1 (by simp);have bB:a2.cell? ⟨d.heap.size,0,none⟩=some (.slice c.a c.n c.cap):=H.tr.cell 0 (by simp))
     go_region_held3 (fun e=>e.cell? ⟨d.heap.size,0,none⟩=some (.slice c.a c.n c.cap)/\e.cell? ⟨d.heap.size+1,0,none⟩=some (.int .i64 ((b:Int)+1))/\e.cell? ⟨d.heap.size+1,1,none⟩=some (.slice l a.length m)) (go_keep)
      (first
       |(go_at_call 125;refine(aI.o _ (by exact H.bel.drew)).mono ?_;rintro o ak ⟨rfl,a8⟩;have I:=Pv.next (Pv.drew H) a8;have bn:ak.cell? ⟨d.heap.size,0,none⟩=some (.slice c.a c.n c.cap):=I.tr.cell 0 (by simp);have bo:ak.cell? ⟨d.heap.size+1,0,none⟩=some (.int .i64 ((b:Int)+1)):=I.pg.cell 0 (by simp);have bp:ak.cell? ⟨d.heap.size+1,1,none⟩=some (.slice l a.length m):=I.pg.cell 1 (by simp))
       |(go_at_call 93;refine(b2.o _ (by exact I.bel)).mono ?_;rintro o N ⟨b8,aA,b9,rfl,av,a9⟩;have J:=Pv.next I a9;have bn:N.cell? ⟨d.heap.size,0,none⟩=some (.slice c.a c.n c.cap):=J.tr.cell 0 (by simp);have bo:N.cell? ⟨d.heap.size+1,0,none⟩=some (.int .i64 ((b:Int)+1)):=J.pg.cell 0 (by simp);have bp:N.cell? ⟨d.heap.size+1,1,none⟩=some (.slice l a.length m):=J.pg.cell 1 (by simp)))
     obtain⟨bi,au,bg⟩:=rj.sl av;have am:Hd (rj N (d.heap.size+2) (.slice a3 ag a6) (fq (b+1) a++fz (pz g) h j b a f)):=lj (lj (lj u.o K) (by exact BW a8)) a9;have aD:Hd (d.heap.size+2<=N.heap.size):=by have:=J.pg.lt;unfold Hd;omega
     have b4:Hd (Pv d [.slice c.a c.n c.cap] [.int .i64 ((b:Int)+1),.slice l a.length m] N):=J;have aR:Hd (aA=(Gq (pz g) h j b i.2).length):=au;clear au J I H K a8 a9 av P u;go_wp2_with (at_builtin;refine Hq (by rfl) (.tmp 41) (.tmp 42) (by rfl) (d.heap.size+2) _ (fq (b+1) a++fz (pz g) h j b a f) (by rfl) am.o b8 aA b9 (Gq (pz g) h j b i.2) (by rfl) aR.o bi bg aP.o aD.o ?_;intro an aB ao aC be ax bk ap bc;have aT:Hd (rj aC (d.heap.size+2) (.slice an aB ao) _):=ax;have b5:Hd (Pv d _ _ aC):=Pv.frame b4.o am.o (by omega) ap;clear be ax bk ap bc);refine⟨⟨f+1,an,aB,ao,by omega,rfl,by go_num,b5.o,?_⟩,by simp[intOf];omega⟩;unfold Hd;rw[V.o,b0.o,<-NN];exact aT.o
   .have bd:¬(f:Int)<a.length:=by omega
    obtain rfl:f=a.length:=by omega
    clear G;go_wp2;go_ret;exact⟨a3,ag,a6,rfl,Hj u.o (fun f Z=>by have:=(u.o.lt f Z).1;omega),P.o.bel⟩
end
end Go.Proofs.YtekegfbjbainhaaGreat
