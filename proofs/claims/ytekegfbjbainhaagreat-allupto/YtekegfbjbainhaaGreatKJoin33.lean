import Derived.Test.YtekegfbjbainhaaGreatKJoin30
import Derived.Test.YtekegfbjbainhaaGreatKJoin32
import Derived.Deep.RegionHeld3
set_option maxRecDepth 100000
set_option maxHeartbeats 1600000
set_option linter.unusedVariables false
set_option linter.unusedSimpArgs false
namespace Go.Proofs.YtekegfbjbainhaaGreat
open Go.RowKit
section
attribute [local go_sem↓] Go.wp_at_zero Go.wp_at_succ
theorem pX:∀(b:List (List UInt8)) (d c:Nat) (h:Option (Nat×Nat)) (i:List UInt8) (n:Option Addr) (g:Nat) (f:World),tq f n b.reverse->b.length<=g->g<=9223372036854775807->i.length=8->1<=c->c<=d->d<=9223372036854775807->(∀e a,h=some (e,a)->e<f.heap.size/\f.rangeAt e a (i.map fj))->
  CP 136 #[.int .i64 c,.int .i64 d,.pointer (h.map (fun w=>⟨w.1,w.2,none⟩)),.slice n b.length g] f fun L A=>Gw (Xy c d h.isSome i b) L/\Below f.heap.size f A
 |[],d,c,h,i,n,g,f,K,M,v,m,B,Q,F,q=>by
  unfold Xy;by_cases l:c=d/\h.isSome=true
  .rw[if_pos l];obtain⟨rfl,J⟩:=l;cases h with
   |none=>cases J
   |some w=>
    obtain⟨e,a⟩:=w;refine(CK 0 c e a i n g f m (by omega) (q e a rfl).1 (q e a rfl).2).mono ?_;rintro E A ⟨rfl,k⟩;exact⟨⟨i,i,m,m,rfl,fun a j=>(lN j).symm⟩,k⟩
  .rw[if_neg l];refine(sL d c _ n g f (fun u=>l ⟨u.1,by cases h;exact absurd rfl u.2;rfl⟩)).mono ?_;rintro E A ⟨rfl,k⟩;exact⟨⟨gw,gw,rfl,rfl,rfl,fun a j=>by cases j⟩,k⟩
 |t::b,d,c,h,i,n,g,f,K,M,v,m,B,Q,F,q=>by
  have H:b.length+1<=g:=M;unfold Xy;by_cases l:c=d/\h.isSome=true
  .rw[if_pos l];obtain⟨rfl,J⟩:=l;cases h with
   |none=>cases J
   |some w=>
    obtain⟨e,a⟩:=w;refine(CK (b.length+1) c e a i n g f m (by omega) (q e a rfl).1 (q e a rfl).2).mono ?_;rintro E A ⟨rfl,k⟩;exact⟨⟨i,i,m,m,by
     have:(((b.length+1:Nat):Int)==0)=false:=by rw[tN];simp only[ne_eq,beq_iff_eq];omega
     rw[this];rfl,fun a j=>by cases j⟩,k⟩
  rw[if_neg l];obtain⟨o,s,rfl,k⟩:∃o s,n=some ⟨o,s,none⟩/\o<f.heap.size:=by
   have u:=K;have S:(t::b).reverse≠[]:=by simp
   revert u;generalize (t::b).reverse=P at*;cases P with
   |nil=>exact absurd rfl S
   |cons W P=>exact fun u=>u.addr
  obtain⟨I,N,z⟩:=K.last;by_cases G:c=d
  .rw[if_pos G];subst G;obtain rfl:h=none:=by cases h;rfl;exact absurd ⟨rfl,rfl⟩ l
   refine(oM b.length c o s t g f z k H v I).mono ?_;rintro E A ⟨rfl,R⟩;have U:((b.length:Int)==0)=(b.length==0):=by rw[caj];simp only[beq_iff_eq];omega
   refine⟨⟨t,t,z,z,?_,?_⟩,R⟩
   .rw[U];by_cases r:b.length=0
    .rw[if_pos r,r];rfl
    .rw[if_neg r,beq_eq_false_iff_ne.2 r];rfl
   .intro a j;by_cases r:b.length=0
    .rw[if_pos r]at j;exact(lN j).symm
    .rw[if_neg r]at j;cases j
  .rw[if_neg G];have V:=Rq d (by omega);by_cases C:c<=gj d
   .rw[if_pos C];exact pM b.length c d o s _ t _ g f z k H v I B (by omega) F C (fun D x=>pX b (gj d) c h i (some ⟨o,s,none⟩) g D (N.below x) (by omega) v m B C (by omega) (fun e a y=>⟨qN (q e a y).1 x.size,fun O L T=>by rw[x.cell (p:=⟨e,a+O,none⟩) (q e a y).1];exact(q e a y).2 O L T⟩))
   .rw[if_neg C];exact qM b.length c d o s _ t _ g f z k H v I B (by omega) F (by omega) (fun D x=>pX b (d - gj d) (c - gj d) none i (some ⟨o,s,none⟩) g D (N.below x) (by omega) v m (by omega) (by omega) (by omega) (fun e a y=>by cases y))
theorem uL(a b:Int)(c d:List UInt8)(f:Option Addr)(k g:Nat)(e:World)(i:c.length=8)(j:d.length=8)(n:a<0\/b<a):
  CP 113 #[Vj a c,Vj b d,.slice f k g] e fun l m=>l=.returned (.bool false)/\Below e.heap.size e m:=by
 obtain⟨q,r,s,t,u,v,w,x,rfl⟩:=uj c i;obtain⟨y,z,A,B,C,D,E,F,rfl⟩:=uj d j;unfold Vj fj;simp only[ZM,dN];by_cases h:a<0
 .go_enter Tryz.func113,Tryz.ntmps113;go_wp2;go_ret;exact⟨rfl,tO.alloc (by simp) _⟩
 .have o:b<a:=by omega
  have p:¬a<0:=h;go_enter Tryz.func113,Tryz.ntmps113;go_wp2;go_ret;exact⟨rfl,tO.alloc (by simp) _⟩
theorem uF(j:Int)(I L:List UInt8)(V:Option Addr)(w W:Nat)(a:World)(Z:I.length=8)(a0:L.length=8)(Q:0<=j)(al:w<=9223372036854775807):
  CP 113 #[Vj 0 I,Vj j L,.slice V w W] a fun a1 M=>a1=.returned (.bool (w==0&&I==Aj []))/\Below a.heap.size a M:=by
 obtain⟨b,c,d,e,f,g,h,i,rfl⟩:=uj I Z;obtain⟨k,l,m,n,o,p,q,r,rfl⟩:=uj L a0;have ao:¬j<0:=by omega
 have J:Hd (BB a ((a.alloc (.cells ((Value.int .i64 0::[b,c,d,e,f,g,h,i].map fj).toArray) 98)).alloc (.cells ((Value.int .i64 j::[k,l,m,n,o,p,q,r].map fj).toArray) 98))):=tO.alloc (by simp) _;by_cases X:w=0
 .subst X;obtain⟨x,y,z,A,B,C,D,E,K⟩:=uj (Aj []) (Lj _);have N:Hd (∀F,CP 119 #[.slice none 0 0] F fun P M=>P=.returned (dV [x,y,z,A,B,C,D,E])/\Below F.heap.size F M):=fun F=>by
   have Q:=dy 1 [] none 0 F (by simp) (by simp) (by simp) (by simp) ⟨fun ap Y=>absurd Y (wN _),by simp⟩;rw[show dV [x,y,z,A,B,C,D,E]=dV (Aj [])by rw[K]];exact Q
  rw[K];have ak:=yy b c d e f g h i x y z A B C D E;have O:Hd ((((0:Nat)==0)&&([b,c,d,e,f,g,h,i]==[x,y,z,A,B,C,D,E]))=([b,c,d,e,f,g,h,i]==[x,y,z,A,B,C,D,E])):=rfl;rw[O.o];clear O K;generalize ([b,c,d,e,f,g,h,i]==[x,y,z,A,B,C,D,E])=ai at*;have s:=(aj.new a 98 (Value.int .i64 0::[b,c,d,e,f,g,h,i].map fj)).alloc (.cells ((Value.int .i64 j::[k,l,m,n,o,p,q,r].map fj).toArray) 98);unfold Vj fj at*;unfold dV fj at N;simp only[ZM,dN]at*;have a2:((a.alloc (.cells (vO 0 b c d e f g h i) 98)).alloc (.cells (vO j k l m n o p q r) 98)).cell? ⟨a.heap.size,1,none⟩=some (.int .u8 b.toNat):=aj.cell? s 1;have a3:((a.alloc (.cells (vO 0 b c d e f g h i) 98)).alloc (.cells (vO j k l m n o p q r) 98)).cell? ⟨a.heap.size,2,none⟩=some (.int .u8 c.toNat):=aj.cell? s 2;have a4:((a.alloc (.cells (vO 0 b c d e f g h i) 98)).alloc (.cells (vO j k l m n o p q r) 98)).cell? ⟨a.heap.size,3,none⟩=some (.int .u8 d.toNat):=aj.cell? s 3;have a5:((a.alloc (.cells (vO 0 b c d e f g h i) 98)).alloc (.cells (vO j k l m n o p q r) 98)).cell? ⟨a.heap.size,4,none⟩=some (.int .u8 e.toNat):=aj.cell? s 4;have a6:((a.alloc (.cells (vO 0 b c d e f g h i) 98)).alloc (.cells (vO j k l m n o p q r) 98)).cell? ⟨a.heap.size,5,none⟩=some (.int .u8 f.toNat):=aj.cell? s 5;have a7:((a.alloc (.cells (vO 0 b c d e f g h i) 98)).alloc (.cells (vO j k l m n o p q r) 98)).cell? ⟨a.heap.size,6,none⟩=some (.int .u8 g.toNat):=aj.cell? s 6;have a8:((a.alloc (.cells (vO 0 b c d e f g h i) 98)).alloc (.cells (vO j k l m n o p q r) 98)).cell? ⟨a.heap.size,7,none⟩=some (.int .u8 h.toNat):=aj.cell? s 7;have a9:((a.alloc (.cells (vO 0 b c d e f g h i) 98)).alloc (.cells (vO j k l m n o p q r) 98)).cell? ⟨a.heap.size,8,none⟩=some (.int .u8 i.toNat):=aj.cell? s 8;have U:Hd (aj ((a.alloc (.cells (vO 0 b c d e f g h i) 98)).alloc (.cells (vO j k l m n o p q r) 98)) a.heap.size 98 _):=s;clear s;go_enter Tryz.func113,Tryz.ntmps113;go_wp2
  go_region_held3 (fun v=>v.cell? ⟨a.heap.size,1,none⟩=some (.int .u8 b.toNat)/\v.cell? ⟨a.heap.size,2,none⟩=some (.int .u8 c.toNat)/\v.cell? ⟨a.heap.size,3,none⟩=some (.int .u8 d.toNat)/\v.cell? ⟨a.heap.size,4,none⟩=some (.int .u8 e.toNat)/\v.cell? ⟨a.heap.size,5,none⟩=some (.int .u8 f.toNat)/\v.cell? ⟨a.heap.size,6,none⟩=some (.int .u8 g.toNat)/\v.cell? ⟨a.heap.size,7,none⟩=some (.int .u8 h.toNat)/\v.cell? ⟨a.heap.size,8,none⟩=some (.int .u8 i.toNat)) (go_keep)
   ((go_at_call 119;refine(N.o _).mono ?_;rintro P t ⟨rfl,R⟩;have T:Hd (BB a t):=J.o.trans (by have H:=R.mono J.o.size;exact⟨H.os,H.tape,H.output,H.size,H.block⟩);have u:=aj.past R (by exact U.o);have aa:t.cell? ⟨a.heap.size,1,none⟩=some (.int .u8 b.toNat):=aj.cell? u 1;have ab:t.cell? ⟨a.heap.size,2,none⟩=some (.int .u8 c.toNat):=aj.cell? u 2;have ac:t.cell? ⟨a.heap.size,3,none⟩=some (.int .u8 d.toNat):=aj.cell? u 3;have ad:t.cell? ⟨a.heap.size,4,none⟩=some (.int .u8 e.toNat):=aj.cell? u 4;have ae:t.cell? ⟨a.heap.size,5,none⟩=some (.int .u8 f.toNat):=aj.cell? u 5;have af:t.cell? ⟨a.heap.size,6,none⟩=some (.int .u8 g.toNat):=aj.cell? u 6;have ag:t.cell? ⟨a.heap.size,7,none⟩=some (.int .u8 h.toNat):=aj.cell? u 7;have ah:t.cell? ⟨a.heap.size,8,none⟩=some (.int .u8 i.toNat):=aj.cell? u 8))
  all_goals
   go_wp2;go_ret;exact⟨rfl,T.o⟩
 .have am:((w:Int)==0)=false:=by rw[tN];simp only[ne_eq,beq_iff_eq];omega
  have S:(w==0)=false:=by rw[tN];simp only[ne_eq,beq_iff_eq];omega
  have an:(w:Int)<=9223372036854775807:=by omega
  rw[S,Bool.false_and];clear S;unfold Vj fj at*;simp only[ZM,dN]at*;go_enter Tryz.func113,Tryz.ntmps113;go_wp2;go_quiet (fail);go_wp2;go_ret;exact⟨rfl,by have G:=J.o;exact⟨G.os,G.tape,G.output,G.size,G.block⟩⟩
theorem XG(t s:Nat)(P U:List UInt8)(O:List (List UInt8))(W:Option Addr)(S:Nat)(a:World)(ad:P.length=8)(ah:U.length=8)(ac:t<=9223372036854775807)(aa:1<=s)(ab:s<=t)(ae:tq a W O.reverse)(a9:O.length<=S)(a8:S<=9223372036854775807):
  CP 113 #[Vj s P,Vj t U,.slice W O.length S] a fun V al=>V=.returned (.bool (iV (Xy s t true P O) P U))/\Below a.heap.size a al:=by
 obtain⟨u,v,w,x,y,z,A,B,rfl⟩:=uj P ad;obtain⟨E,F,G,H,I,J,K,L,rfl⟩:=uj U ah;have M:Below a.heap.size a ((a.alloc (.cells ((Value.int .i64 s::[u,v,w,x,y,z,A,B].map fj).toArray) 98)).alloc (.cells ((Value.int .i64 t::[E,F,G,H,I,J,K,L].map fj).toArray) 98)):=tO.alloc (by simp) _;have Q:aj ((a.alloc (.cells ((Value.int .i64 s::[u,v,w,x,y,z,A,B].map fj).toArray) 98)).alloc (.cells ((Value.int .i64 t::[E,F,G,H,I,J,K,L].map fj).toArray) 98)) a.heap.size 98 (Value.int .i64 s::[u,v,w,x,y,z,A,B].map fj):=(aj.new a _ _).alloc _;have a0:aj ((a.alloc (.cells ((Value.int .i64 s::[u,v,w,x,y,z,A,B].map fj).toArray) 98)).alloc (.cells ((Value.int .i64 t::[E,F,G,H,I,J,K,L].map fj).toArray) 98)) (a.heap.size+1) 98 (Value.int .i64 t::[E,F,G,H,I,J,K,L].map fj):=aj.new_at _ _ _ _ (by simp);have Y:=pX O t s (some (a.heap.size,1)) [u,v,w,x,y,z,A,B] W S _ (ae.below M) a9 a8 rfl aa ab ac (fun a4 T X=>by cases X;exact⟨Q.lt,fun a3 V ai=>by have X:=Q.range (a3+1) V (by simpa using ai);rw[Nat.add_comm 1 a3];simpa using X⟩);simp only[Option.isSome_some,GN]at Y;have a5:Hd (Calls _ _ _ _ _):=Y;clear Y;generalize Xy s t true [u,v,w,x,y,z,A,B] O=R at*;have aS:¬(s:Int)<0:=by omega
 have aT:¬(t:Int)<s:=by omega
 have b0:((s:Int)==0)=false:=by rw[tN];simp only[ne_eq,beq_iff_eq];omega
 unfold Vj at*;unfold fj at*;simp only[ZM,dN]at*;go_enter Tryz.func113,Tryz.ntmps113;go_wp2_with fail;refine a5.o.mono ?_;rintro V r ⟨⟨a4,T,af,ag,rfl,a2⟩,N⟩;obtain⟨b,c,d,e,f,g,h,i,rfl⟩:=uj a4 af;obtain⟨j,k,l,m,n,o,p,q,rfl⟩:=uj T ag;have C:=((aj.past N Q).alloc (.cells (cO b c d e f g h i) 36)).alloc (.cells (cO j k l m n o p q) 36);have D:=((aj.past N a0).alloc (.cells (cO b c d e f g h i) 36)).alloc (.cells (cO j k l m n o p q) 36);have am:((r.alloc (.cells (cO b c d e f g h i) 36)).alloc (.cells (cO j k l m n o p q) 36)).cell? ⟨a.heap.size,1,none⟩=some (.int .u8 u.toNat):=aj.cell? C 1;have aB:((r.alloc (.cells (cO b c d e f g h i) 36)).alloc (.cells (cO j k l m n o p q) 36)).cell? ⟨a.heap.size+1,1,none⟩=some (.int .u8 E.toNat):=aj.cell? D 1;have an:((r.alloc (.cells (cO b c d e f g h i) 36)).alloc (.cells (cO j k l m n o p q) 36)).cell? ⟨a.heap.size,2,none⟩=some (.int .u8 v.toNat):=aj.cell? C 2;have aC:((r.alloc (.cells (cO b c d e f g h i) 36)).alloc (.cells (cO j k l m n o p q) 36)).cell? ⟨a.heap.size+1,2,none⟩=some (.int .u8 F.toNat):=aj.cell? D 2;have ao:((r.alloc (.cells (cO b c d e f g h i) 36)).alloc (.cells (cO j k l m n o p q) 36)).cell? ⟨a.heap.size,3,none⟩=some (.int .u8 w.toNat):=aj.cell? C 3;have aD:((r.alloc (.cells (cO b c d e f g h i) 36)).alloc (.cells (cO j k l m n o p q) 36)).cell? ⟨a.heap.size+1,3,none⟩=some (.int .u8 G.toNat):=aj.cell? D 3;have ap:((r.alloc (.cells (cO b c d e f g h i) 36)).alloc (.cells (cO j k l m n o p q) 36)).cell? ⟨a.heap.size,4,none⟩=some (.int .u8 x.toNat):=aj.cell? C 4;have aE:((r.alloc (.cells (cO b c d e f g h i) 36)).alloc (.cells (cO j k l m n o p q) 36)).cell? ⟨a.heap.size+1,4,none⟩=some (.int .u8 H.toNat):=aj.cell? D 4;have ar:((r.alloc (.cells (cO b c d e f g h i) 36)).alloc (.cells (cO j k l m n o p q) 36)).cell? ⟨a.heap.size,5,none⟩=some (.int .u8 y.toNat):=aj.cell? C 5;have aI:((r.alloc (.cells (cO b c d e f g h i) 36)).alloc (.cells (cO j k l m n o p q) 36)).cell? ⟨a.heap.size+1,5,none⟩=some (.int .u8 I.toNat):=aj.cell? D 5
 have au:((r.alloc (.cells (cO b c d e f g h i) 36)).alloc (.cells (cO j k l m n o p q) 36)).cell? ⟨a.heap.size,6,none⟩=some (.int .u8 z.toNat):=aj.cell? C 6;have aO:((r.alloc (.cells (cO b c d e f g h i) 36)).alloc (.cells (cO j k l m n o p q) 36)).cell? ⟨a.heap.size+1,6,none⟩=some (.int .u8 J.toNat):=aj.cell? D 6;have av:((r.alloc (.cells (cO b c d e f g h i) 36)).alloc (.cells (cO j k l m n o p q) 36)).cell? ⟨a.heap.size,7,none⟩=some (.int .u8 A.toNat):=aj.cell? C 7;have aP:((r.alloc (.cells (cO b c d e f g h i) 36)).alloc (.cells (cO j k l m n o p q) 36)).cell? ⟨a.heap.size+1,7,none⟩=some (.int .u8 K.toNat):=aj.cell? D 7;have ax:((r.alloc (.cells (cO b c d e f g h i) 36)).alloc (.cells (cO j k l m n o p q) 36)).cell? ⟨a.heap.size,8,none⟩=some (.int .u8 B.toNat):=aj.cell? C 8;have aR:((r.alloc (.cells (cO b c d e f g h i) 36)).alloc (.cells (cO j k l m n o p q) 36)).cell? ⟨a.heap.size+1,8,none⟩=some (.int .u8 L.toNat):=aj.cell? D 8;have b1:=yy b c d e f g h i u v w x y z A B;have b2:=yy j k l m n o p q E F G H I J K L;have a1:Hd (iV R [u,v,w,x,y,z,A,B] [E,F,G,H,I,J,K,L]=(R.isSome&&(([b,c,d,e,f,g,h,i]==[u,v,w,x,y,z,A,B])&&([j,k,l,m,n,o,p,q]==[E,F,G,H,I,J,K,L])))):=by
  cases a7:R with
  |none=>rfl
  |some T=>
   have:=a2 T a7;subst this;rfl
 clear a2;have Z:Hd (BB a ((r.alloc (.cells (cO b c d e f g h i) 36)).alloc (.cells (cO j k l m n o p q) 36))):=((M.trans (N.mono M.size)).alloc (M.trans (N.mono M.size)).size _).alloc (by have:=(M.trans (N.mono M.size)).size;simp;omega) _;generalize ([b,c,d,e,f,g,h,i]==[u,v,w,x,y,z,A,B])=a6 at*;generalize ([j,k,l,m,n,o,p,q]==[E,F,G,H,I,J,K,L])=aA at*;generalize R.isSome=ak at*;clear N M Q a0 C D;unfold dV fj;simp only[ZM,dN];cases ak
 .go_wp2;go_ret;exact⟨by rw[a1.o];rfl,Z.o⟩
 .cases a6
  all_goals
   go_wp2;go_ret;exact⟨by rw[a1.o];rfl,Z.o⟩
theorem YG(a b:Int)(f g:List UInt8)(c:List (List UInt8))(h:Option Addr)(e:Nat)(d:World)(k:f.length=8)(l:g.length=8)(t:b<=9223372036854775807)(q:tq d h c.reverse)(p:c.length<=e)(o:e<=9223372036854775807):
  CP 113 #[Vj a f,Vj b g,.slice h c.length e] d fun r s=>r=.returned (.bool (tQ a b f g c))/\Below d.heap.size d s:=by
 unfold tQ;by_cases i:a<0\/b<a
 .rw[if_pos i];exact uL a b f g h c.length e d k l i
 .rw[if_neg i];by_cases j:a=0
  .rw[if_pos j];subst j;exact uF b f g h c.length e d k l (by omega) (by omega)
  .rw[if_neg j];obtain⟨n,rfl⟩:∃n:Nat,b=n:=⟨b.toNat,by omega⟩;obtain⟨m,rfl⟩:∃m:Nat,a=m:=⟨a.toNat,by omega⟩;simp only[Jaj];exact XG n m f g c h e d k l (by omega) (by omega) (by omega) q p o
theorem vL(f b:Int)(c e:List UInt8)(d:List (List UInt8))(h:Option Addr)(g:Nat)(a:World)(j:c.length=8)(k:e.length=8)(q:b<=9223372036854775807)(r:tq a h d.reverse)(p:d.length<=g)(o:g<=9223372036854775807):
  CP 76 #[Vj f c,Vj b e,.slice h d.length g] a fun l A=>l=.returned (.bool (tQ f b c e d))/\Below a.heap.size a A:=by
 have i:Below a.heap.size a ((a.alloc (.cells ((Value.int .i64 f::c.map fj).toArray) 98)).alloc (.cells ((Value.int .i64 b::e.map fj).toArray) 98)):=tO.alloc (by simp) _;have m:Hd (Calls _ _ _ _ _):=YG f b c e d h g _ j k q (r.below i) p o;obtain⟨s,t,u,v,w,x,y,z,rfl⟩:=uj c j;obtain⟨B,C,D,E,F,G,H,I,rfl⟩:=uj e k;generalize tQ f b [s,t,u,v,w,x,y,z] [B,C,D,E,F,G,H,I] d=l at*;unfold Vj fj at*;simp only[ZM,dN]at*;go_enter Tryz.func76,Tryz.ntmps76;go_wp2_with fail;refine m.o.mono ?_;rintro J K ⟨rfl,n⟩;go_wp2;go_ret;exact⟨rfl,i.trans (n.mono i.size)⟩
theorem FK(e b:Int)(c d:List UInt8)(f:List (List UInt8))(u:Option Addr)(l:Nat)(a:World)(o:c.length=8)(q:d.length=8)(S:b<=9223372036854775807)(p:tq a u f)(R:f.length<=17592186044416)(a0:f.length<=l)(Z:l<=9223372036854775807)(X:(u=none/\f=[]/\l=0)\/∃v,u=some v):
  CP 39 #[Vj e c,Vj b d,.slice u f.length l] a fun h t=>h=.returned (.bool true)/\Below a.heap.size a t:=by
 have n:Below a.heap.size a ((a.alloc (.cells ((Value.int .i64 e::c.map fj).toArray) 98)).alloc (.cells ((Value.int .i64 b::d.map fj).toArray) 98)):=tO.alloc (by simp) _;have E:aj ((a.alloc (.cells ((Value.int .i64 e::c.map fj).toArray) 98)).alloc (.cells ((Value.int .i64 b::d.map fj).toArray) 98)) a.heap.size 98 (Value.int .i64 e::c.map fj):=(aj.new a _ _).alloc _;have H:aj ((a.alloc (.cells ((Value.int .i64 e::c.map fj).toArray) 98)).alloc (.cells ((Value.int .i64 b::d.map fj).toArray) 98)) (a.heap.size+1) 98 (Value.int .i64 b::d.map fj):=aj.new_at _ _ _ _ (by simp);have M:Hd (∀(g:World) (k:Option Addr) (i:Nat),tq g k f->f.length<=i->i<=9223372036854775807->CP 76 #[Vj e c,Vj b d,.slice k f.length i] g fun h t=>h=.returned (.bool (tQ e b c d f.reverse))/\Below g.heap.size g t):=fun g k i B C D=>by
  have r:=vL e b c d f.reverse k i g o q S (by rw[List.reverse_reverse];exact B) (by rw[Laj];exact C) D;rw[Laj]at r;exact r
 have L:Hd (∀(g:World) (k:Option Addr) (i:Nat),tq g k f->f.length<=i->i<=9223372036854775807->CP 77 #[Vj e c,Vj b d,.slice k f.length i] g fun h t=>h=.returned (.bool (tQ e b c d f.reverse))/\Below g.heap.size g t):=fun g k i B C D=>by
  have r:=BK e b c d f.reverse k i g o q S (by rw[List.reverse_reverse];exact B) (by rw[Laj];exact C) D;rw[Laj]at r;exact r
 generalize tQ e b c d f.reverse=T at*;rw[show Vj e c=.agg (Value.int .i64 e::c.map fj).toArray from rfl,show Vj b d=.agg (Value.int .i64 b::d.map fj).toArray from rfl];have a2:((a.alloc (.cells ((Value.int .i64 e::c.map fj).toArray) 98)).alloc (.cells ((Value.int .i64 b::d.map fj).toArray) 98)).heap.size=a.heap.size+1+1:=by simp
 rcases X with⟨rfl,rfl,rfl⟩|⟨v,rfl⟩
 .go_enter Tryz.func39,Tryz.ntmps39;go_wp2_with fail;refine(lZ _).mono ?_;rintro h J ⟨rfl,rfl⟩;go_wp2_with (first|(refine wpList_load_mid (by rfl) 98 (.tmp 3) (by rfl) a.heap.size 0 (by rfl) (Value.int .i64 e::c.map fj) _ (by exact E.range) Tryz.underlying98 (by rfl) (by simpa[o]using Tryz.sizeHead) ?_)|(refine wpList_load_mid (by rfl) 98 (.tmp 4) (by rfl) (a.heap.size+1) 0 (by rfl) (Value.int .i64 b::d.map fj) _ (by exact H.range) Tryz.underlying98 (by rfl) (by simpa[q]using Tryz.sizeHead) ?_));refine(M.o _ none 0 (p.below n) (TM _) (by omega)).mono ?_;rintro h K ⟨rfl,j⟩;have m:Below a.heap.size a K:=n.trans (j.mono n.size);have w:=aj.past j E;have x:=aj.past j H;clear j;go_wp2_with fail;refine(mZ _).mono ?_;rintro h A ⟨rfl,rfl⟩;go_wp2_with (first|(refine wpList_load_mid (by rfl) 98 (.tmp 3) (by rfl) a.heap.size 0 (by rfl) (Value.int .i64 e::c.map fj) _ (by exact w.range) Tryz.underlying98 (by rfl) (by simpa[o]using Tryz.sizeHead) ?_)|(refine wpList_load_mid (by rfl) 98 (.tmp 4) (by rfl) (a.heap.size+1) 0 (by rfl) (Value.int .i64 b::d.map fj) _ (by exact x.range) Tryz.underlying98 (by rfl) (by simpa[q]using Tryz.sizeHead) ?_));refine(L.o _ none 0 (p.below m) (TM _) (by omega)).mono ?_;rintro h a4 ⟨rfl,I⟩;go_wp2;go_ret;exact⟨by cases T<;>rfl,m.trans (I.mono m.size)⟩
 .go_enter Tryz.func39,Tryz.ntmps39;go_wp2_with fail;refine(EQ f v l _ (p.below n) R).mono ?_;rintro h J ⟨rfl,s,y⟩;have O:Below a.heap.size a J:=n.trans (y.mono n.size);have N:=aj.past y E;have P:=aj.past y H;have G:tq J (some ⟨((a.alloc (.cells ((Value.int .i64 e::c.map fj).toArray) 98)).alloc (.cells ((Value.int .i64 b::d.map fj).toArray) 98)).heap.size,0,none⟩) f:=⟨fun a3 Q=>⟨_,0,rfl,s.lt,by
   rw[sN,aj.cell? s a3];unfold Dk;rw[DN Q,UM Q]⟩,p.2⟩
  have Y:=s.lt;clear y;rw[a2]at s G Y;go_wp2_with (first|(refine wpList_load_mid (by rfl) 98 (.tmp 3) (by rfl) a.heap.size 0 (by rfl) (Value.int .i64 e::c.map fj) _ (by exact N.range) Tryz.underlying98 (by rfl) (by simpa[o]using Tryz.sizeHead) ?_)|(refine wpList_load_mid (by rfl) 98 (.tmp 4) (by rfl) (a.heap.size+1) 0 (by rfl) (Value.int .i64 b::d.map fj) _ (by exact P.range) Tryz.underlying98 (by rfl) (by simpa[q]using Tryz.sizeHead) ?_));refine(M.o _ _ (f.length+8) (by exact G) (by omega) (by omega)).mono ?_;rintro h K ⟨rfl,j⟩;have m:Below a.heap.size a K:=O.trans (j.mono O.size);have w:=aj.past j N;have x:=aj.past j P;have a1:=aj.past j s;clear j G;go_wp2_with fail;refine(FQ f v _ l _ (p.below m) R (by exact a1)).mono ?_;rintro h A ⟨rfl,z⟩;have F:Below a.heap.size a A:=m.trans (z.below m.size (fun a6 a5=>by omega));have V:aj A a.heap.size 98 (Value.int .i64 e::c.map fj):=w.of_block (z.block _ w.lt (fun U=>by omega));have W:aj A (a.heap.size+1) 98 (Value.int .i64 b::d.map fj):=x.of_block (z.block _ x.lt (fun U=>by omega));clear z;go_wp2_with (first|(refine wpList_load_mid (by rfl) 98 (.tmp 3) (by rfl) a.heap.size 0 (by rfl) (Value.int .i64 e::c.map fj) _ (by exact V.range) Tryz.underlying98 (by rfl) (by simpa[o]using Tryz.sizeHead) ?_)|(refine wpList_load_mid (by rfl) 98 (.tmp 4) (by rfl) (a.heap.size+1) 0 (by rfl) (Value.int .i64 b::d.map fj) _ (by exact W.range) Tryz.underlying98 (by rfl) (by simpa[q]using Tryz.sizeHead) ?_));refine(L.o _ _ l (p.below F) a0 Z).mono ?_;rintro h a4 ⟨rfl,I⟩;go_wp2;go_ret;exact⟨by cases T<;>rfl,F.trans (I.mono F.size)⟩
end
section
theorem rM(a:World):CP 36 #[] a fun b c=>b=.returned (.pointer (some ⟨a.heap.size,0,none⟩))/\c=a.alloc (.cells #[.slice none 0 0,.map none,.slice none 0 0] 130):=by
 go_enter Tryz.func36,Tryz.ntmps36;go_wp2;go_ret;exact⟨rfl,rfl⟩
def zw(a c b:Nat):tj:=⟨a,c,b,⟨none,0,0⟩,0,[],0,⟨none,0,0⟩,⟨none,0,0⟩,none,[],[],[],[],⟨none,0,0⟩,⟨none,0,0⟩,⟨none,0,0⟩,[],[],[],[],[]⟩
theorem ZG{d f e b:Nat}(a:(zw d f e).F b):b=d\/b=f\/b=e:=by
 rcases a with(a|a)|a|a
 .exact SM a
 .cases a
 .rcases a with((a|a|⟨g,c,_⟩)|(a|⟨o,k,_⟩)|⟨g,c,_⟩|a|⟨m,i,_⟩)|⟨l,h,_⟩
  .exact RM (SM a)
  .cases a
  .cases c
  .cases a
  .cases k
  .cases c
  .cases a
  .cases i
  .cases h
 .rcases a with a|a|a|a|⟨n,j,_⟩
  .exact RM (RM a)
  .cases a
  .cases a
  .cases a
  .cases j
theorem aH{i d j c:Nat}(a:(zw i d j).sF c):c=d:=by
 rcases a with((a|a|⟨e,b,_⟩)|(a|⟨m,h,_⟩)|⟨e,b,_⟩|a|⟨l,g,_⟩)|⟨k,f,_⟩
 .exact a
 .cases a
 .cases b
 .cases a
 .cases h
 .cases b
 .cases a
 .cases g
 .cases f
theorem bH{e f c b:Nat}(a:(zw e f c).rF b):b=c:=by
 rcases a with a|a|a|a|⟨g,d,_⟩
 .exact a
 .cases a
 .cases a
 .cases a
 .cases d
theorem cH{c e d b:Nat}(a:(zw c e d).oF b):b=c:=by
 rcases a with a|a
 .exact a
 .cases a
theorem wL{j:World}{i g f:Nat}(p:aj j i 94 [Cj g,Cj f,.slice none 0 0])(q:aj j g 130 [.slice none 0 0,.map none,.slice none 0 0])(r:aj j f 91 [.slice none 0 0,.slice none 0 0,.slice none 0 0])
  (v:i≠g)(w:i≠f)(x:g≠f):gz j (zw i g f):=by
 refine⟨⟨p,iN _ _ _ _,⟨q,⟨rfl,fun d a=>(by cases a),fun d a=>(by cases a),fun d a=>(by cases a),?_,fun d a=>(by cases a),fun d a=>(by cases a),fun d a=>(by cases a),List.nodup_nil⟩,⟨iN _ _ _ _,rfl,fun l o _=>absurd o (by simp[zw])⟩,?_,iN _ _ _ _,?_,fun y t=>(by cases t),List.Pairwise.nil,fun k c=>(by cases c),fun k c=>(by cases c),by simp[zw]⟩,
  ⟨r,iN _ _ _ _,iN _ _ _ _,fun C u=>(by cases u),iN _ _ _ _,fun k c=>(by cases c)⟩,⟨fun m s=>(by cases s),rfl,rfl,fun l m B y n=>(by simp[zw]at n)⟩,?_,?_,?_⟩,rfl,rfl,rfl,rfl,by simp[zw],by simp[zw],rfl,rfl⟩
 .intro l A d z _ a;simp[zw]at a
 .intro h b;rcases b with b|⟨k,c,_⟩
  .cases b
  .cases c
 .intro h b;cases b
 .intro h b e;exact v ((cH b).symm.trans (aH e))
 .intro h b e;exact w ((cH b).symm.trans (bH e))
 .intro h b e;exact x ((aH b).symm.trans (bH e))
def GQ:Type:=Value×Value×Value
structure Oz(B:GQ)(w:World)(wb:Nat)(ps:dj)(ds:List tj):Prop where
 row:aj w wb 34 [ps.val,B.1,B.2.1,B.2.2]
 own:w.ownsRow 0 55 1 ps.val ds.length (ds.map (fun d=>Cj d.pb))
 ok:∀d∈ds,gz w d
 low:∀d∈ds,∀k,d.F k->wb<k/\ps.val.ownBlock≠some k
 psb:∀k,ps.val.ownBlock=some k->wb<k
 apart:∀(i j:Nat) (d e:tj),i≠j->ds[i]? =some d->ds[j]? =some e->∀k,d.F k->¬e.F k
theorem Oz.frame{h:GQ}{k i:World}{S:Nat->Prop}{g:Nat}{f:dj}{d:List tj}(a:Oz h k g f d)(e:bj S k i)(l:¬S g)(m:∀b,f.val.ownBlock=some b->¬S b)(n:∀c∈d,∀b,c.F b->¬S b):Oz h i g f d:=
 ⟨aj.of_block a.row (e.block _ (aj.lt a.row) l),ij a.own e m,fun c j=>(a.ok c j).frame e (n c j),a.low,a.psb,a.apart⟩
theorem Oz.below{B:GQ}{w b:World}{e:Nat}{d:dj}{c:List tj}(f:Oz B w e d c)(g:Below w.heap.size w b):Oz B b e d c:=f.frame (bj.of_below_all (S:=fun _=>False) g) (fun a=>a) (fun _ _ a=>a) (fun _ _ _ _ a=>a)
theorem Oz.step{F:GQ}{q J:World}{E:Nat}{I:dj}{i:List tj}(d:Oz F q E I i){e:Nat}{f:tj}(o:i[e]? =some f)(P:Cz f q J):∃B,Oz F J E I B/\B.length=i.length/\(∀j∈B,∀a,j.F a->(∃t∈i,t.F a)\/q.heap.size<=a):=by
 obtain⟨r,O,N,v,D⟩:=P;have u:f∈i:=mN o;have G:e<i.length:=(kN.1 o).1;have Q:=v.size;have H:∀a,r.F a->(a<q.heap.size/\f.F a)\/q.heap.size<=a:=fun a k=>by
  by_cases p:a<q.heap.size
  .exact SM ⟨p,D a k p⟩
  .exact RM (by omega)
 have w:∀g,(i.set e r)[g]? =if e=g then some r else i[g]? :=fun g=>by
  rw[List.getElem?_set];by_cases b:e=g
  .subst b;simp[G]
  .simp[b]
 refine⟨i.set e r,⟨aj.of_block d.row (v.block _ (aj.lt d.row) (fun b=>by have:=(d.low f u E b).1;omega)),?_,?_,?_,d.psb,?_⟩,by simp,?_⟩
 .have K:(i.set e r).map (fun f=>Cj f.pb)=i.map (fun f=>Cj f.pb):=by
   rw[List.map_set,O];have L:i[e]=f:=(kN.1 o).2
   apply Taj
   intro g;rw[List.getElem?_set];by_cases b:e=g
   .subst b;simp[G,L]
   .simp[b]
  rw[List.length_set,K];exact ij d.own v (fun a k b=>(d.low f u a b).2 k)
 .intro j h;obtain⟨g,c⟩:=yaj h;rw[w]at c;by_cases b:e=g
  .rw[if_pos b]at c;cases c;exact N
  .rw[if_neg b]at c;exact(d.ok j (mN c)).frame v (fun a k M=>d.apart e g f j b o c a M k)
 .intro j h a k;obtain⟨g,c⟩:=yaj h;rw[w]at c;by_cases b:e=g
  .rw[if_pos b]at c;cases c;rcases H a k with⟨_,n⟩|n
   .exact d.low f u a n
   .refine⟨by have:=aj.lt d.row;omega,fun b=>by have:=(d.own.lt a b).2;omega⟩
  .rw[if_neg b]at c;exact d.low j (mN c) a k
 .intro z A j t C h l a x y;rw[w]at h l;by_cases s:e=z
  .rw[if_pos s]at h;cases h;rw[if_neg (fun m=>C (s.symm.trans m))]at l;have p:=(d.ok t (mN l)).lay.lt a y;exact d.apart e A f t (fun m=>C (s.symm.trans m)) o l a (D a x p) y
  .rw[if_neg s]at h;by_cases m:e=A
   .rw[if_pos m]at l;cases l;have p:=(d.ok j (mN h)).lay.lt a x;exact d.apart z e j f (fun b=>s b.symm) h o a x (D a y p)
   .rw[if_neg m]at l;exact d.apart z A j t C h l a x y
 .intro j h a k;obtain⟨g,c⟩:=yaj h;rw[w]at c;by_cases b:e=g
  .rw[if_pos b]at c;cases c;rcases H a k with⟨_,n⟩|n
   .exact SM ⟨f,u,n⟩
   .exact RM n
  .rw[if_neg b]at c;exact SM ⟨j,mN c,k⟩
theorem Oz.push{n:GQ}{u k l:World}{j:Nat}{m ps':dj}{h:List tj}{g:tj}(f:Oz n u j m h)(G:Below u.heap.size u k)(H:gz k g)(s:∀a,g.F a->u.heap.size<=a)
  (J:l.ownsRow 0 55 1 ps'.val (h.length+1) (h.map (fun g=>Cj g.pb)++[Cj g.pb]))(y:bj (fun a=>m.val.ownBlock=some a) k l)(Q:ps'.val.ownBlock=m.val.ownBlock\/ps'.val.ownBlock=some k.heap.size):
  Oz n (l.setCell ⟨j,0,none⟩ ps'.val) j ps' (h++[g]):=by
 have o:=f.below G;have W:=aj.lt f.row;have V:=G.size;have U:=y.size;have L:aj l j 34 [m.val,n.1,n.2.1,n.2.2]:=aj.of_block o.row (y.block _ (aj.lt o.row) (fun c=>by have:=f.psb _ c;omega));have I:bj (fun a=>a=j) l (l.setCell ⟨j,0,none⟩ ps'.val):=(bj.refl (fun a=>a=j) _).setCell (p:=⟨j,0,none⟩) rfl _;have K:∀a,ps'.val.ownBlock=some a->m.val.ownBlock=some a\/a=k.heap.size:=fun a b=>by
  rcases Q with c|c
  .exact SM (by rw[<-c];exact b)
  .rw[c]at b;exact RM (lN b).symm
 have F:∀e∈h++[g],gz k e/\(∀a,e.F a->j<a/\m.val.ownBlock≠some a/\a<k.heap.size):=fun e d=>by
  rcases fN.1 d with d|d
  .exact⟨o.ok e d,fun a b=>⟨(f.low e d a b).1,(f.low e d a b).2,(o.ok e d).lay.lt a b⟩⟩
  .simp only[eN]at d;subst d;exact⟨H,fun a b=>⟨by have:=s a b;omega,fun c=>by have:=(f.own.lt a c).2;have:=s a b;omega,H.lay.lt a b⟩⟩
 refine⟨by simpa using aj.set L 0 ps'.val,?_,?_,?_,?_,?_⟩
 .rw[XM,rN];exact ij J I (fun a b c=>xj J L (by decide) (by rw[b,c]))
 .intro e d;obtain⟨r,i⟩:=F e d;exact(r.frame y (fun a b c=>(i a b).2.1 c)).frame I (fun a b c=>by have:=(i a b).1;omega)
 .intro e d a b;obtain⟨r,i⟩:=F e d;refine⟨(i a b).1,fun c=>?_⟩;rcases K a c with c|c
  .exact(i a b).2.1 c
  .have:=(i a b).2.2;omega
 .intro a b;rcases K a b with c|c
  .exact f.psb a c
  .have:=aj.lt o.row;omega
 .intro D x e v P d N a A B;have z:∀q w,(h++[g])[q]? =some w->h[q]? =some w\/(q=h.length/\w=g):=fun q w t=>by
   by_cases S:q<h.length
   .rw[DN S]at t;exact SM t
   .rw[MN (by omega)]at t;obtain⟨r,i⟩:=kN.1 t;simp at r i;exact RM ⟨by omega,i.symm⟩
  rcases z D e d with M|⟨T,O⟩
  .rcases z x v N with C|⟨R,E⟩
   .exact f.apart D x e v P M C a A B
   .have:=(f.ok e (mN M)).lay.lt a A;have:=s a (E▸B);omega
  .rcases z x v N with C|⟨R,E⟩
   .have:=(f.ok v (mN C)).lay.lt a B;have:=s a (O▸A);omega
   .omega
theorem Tryz.infoPairP:(Tryz.prog.info? 55).map (fun a=>(a.zero,a.size,a.bytes))=some (some (.pointer none),1,8):=by kernel_rfl
theorem vF{n:GQ}(d:List Value)(e:Nat)(c:dj)(f:List tj)(a:World)(l:Oz n a e c f)(P:d[0]? =some (.int .i64 2))(N:f.length+1<=17592186044416):
  CP 19 #[.pointer (some ⟨e,0,none⟩),.agg d.toArray] a fun k z=>k=.returned (.bool true)/\(∃s h,Oz n z e s (f++[h])/\(∀b,h.F b->a.heap.size<=b)/\(∀b,s.val.ownBlock=some b->c.val.ownBlock=some b\/a.heap.size<=b))/\bj (fun b=>b=e\/c.val.ownBlock=some b) a z:=by
 have O:e<a.heap.size:=aj.lt l.row;have R:a.cell? ⟨e,0,none⟩=some (.slice c.a c.n c.cap):=aj.cell l.row 0 (by simp);have o:Hd (BB a (((((a.alloc (.cells d.toArray 43)).alloc (.cells #[.slice none 0 0,.map none,.slice none 0 0] 130)).alloc (.cells #[.slice none 0 0,.slice none 0 0,.slice none 0 0] 91)).alloc (.cells #[.pointer (some ⟨a.heap.size+1,0,none⟩),.pointer (some ⟨a.heap.size+1+1,0,none⟩),.slice none 0 0] 94)).alloc (.cells #[.pointer (some ⟨a.heap.size+1+1+1,0,none⟩)] 55))):=(((((VM a.heap.size a).alloc (TM _) _).alloc (by simp) _).alloc (by simp;omega) _).alloc (by simp;omega) _).alloc (by simp;omega) _;have E:Hd ((((((a.alloc (.cells d.toArray 43)).alloc (.cells #[.slice none 0 0,.map none,.slice none 0 0] 130)).alloc (.cells #[.slice none 0 0,.slice none 0 0,.slice none 0 0] 91)).alloc (.cells #[.pointer (some ⟨a.heap.size+1,0,none⟩),.pointer (some ⟨a.heap.size+1+1,0,none⟩),.slice none 0 0] 94)).alloc (.cells #[.pointer (some ⟨a.heap.size+1+1+1,0,none⟩)] 55)).ownsRow 0 55 1 (.slice c.a c.n c.cap) f.length (f.map (fun h=>Cj h.pb))):=lj l.own o.o;have F:Hd (jj (((((a.alloc (.cells d.toArray 43)).alloc (.cells #[.slice none 0 0,.map none,.slice none 0 0] 130)).alloc (.cells #[.slice none 0 0,.slice none 0 0,.slice none 0 0] 91)).alloc (.cells #[.pointer (some ⟨a.heap.size+1,0,none⟩),.pointer (some ⟨a.heap.size+1+1,0,none⟩),.slice none 0 0] 94)).alloc (.cells #[.pointer (some ⟨a.heap.size+1+1+1,0,none⟩)] 55)) (some ⟨a.heap.size+1+1+1+1,0,none⟩) [.pointer (some ⟨a.heap.size+1+1+1,0,none⟩)]):=by
  have:=jj.alloc_new ((((a.alloc (.cells d.toArray 43)).alloc (.cells #[.slice none 0 0,.map none,.slice none 0 0] 130)).alloc (.cells #[.slice none 0 0,.slice none 0 0,.slice none 0 0] 91)).alloc (.cells #[.pointer (some ⟨a.heap.size+1,0,none⟩),.pointer (some ⟨a.heap.size+1+1,0,none⟩),.slice none 0 0] 94)) [.pointer (some ⟨a.heap.size+1+1+1,0,none⟩)] 55;unfold Hd;simpa only[YM]using this
 have A:Hd (∀y∈[Value.pointer (some ⟨a.heap.size+1+1+1,0,none⟩)],y.oneCell'=true):=fun y x=>by simp at x;subst x;rfl
 have B:Hd (f.length+1<=maxLen):=by unfold Hd maxLen;omega
 have C:Hd ((f.length+1)*8<=140737488355328):=by unfold Hd;omega
 have v:Hd (∀g,bj (fun b=>(Value.slice c.a c.n c.cap).ownBlock=some b) (((((a.alloc (.cells d.toArray 43)).alloc (.cells #[.slice none 0 0,.map none,.slice none 0 0] 130)).alloc (.cells #[.slice none 0 0,.slice none 0 0,.slice none 0 0] 91)).alloc (.cells #[.pointer (some ⟨a.heap.size+1,0,none⟩),.pointer (some ⟨a.heap.size+1+1,0,none⟩),.slice none 0 0] 94)).alloc (.cells #[.pointer (some ⟨a.heap.size+1+1+1,0,none⟩)] 55)) g->aj g e 34 [c.val,n.1,n.2.1,n.2.2]):=fun g J=>
  aj.of_block (l.below o.o).row (J.block _ (aj.lt (l.below o.o).row) (fun k=>by have:=l.psb _ k;omega))
 have D:Hd (∀(i:Option Addr) (m j:Nat) (g:World),g.ownsRow 0 55 1 (.slice i m j) (f.length+1) (f.map (fun h=>Cj h.pb)++[.pointer (some ⟨a.heap.size+1+1+1,0,none⟩)])->bj (fun b=>(Value.slice c.a c.n c.cap).ownBlock=some b) (((((a.alloc (.cells d.toArray 43)).alloc (.cells #[.slice none 0 0,.map none,.slice none 0 0] 130)).alloc (.cells #[.slice none 0 0,.slice none 0 0,.slice none 0 0] 91)).alloc (.cells #[.pointer (some ⟨a.heap.size+1,0,none⟩),.pointer (some ⟨a.heap.size+1+1,0,none⟩),.slice none 0 0] 94)).alloc (.cells #[.pointer (some ⟨a.heap.size+1+1+1,0,none⟩)] 55)) g->
   ((Value.slice i m j).ownBlock=(Value.slice c.a c.n c.cap).ownBlock\/(Value.slice i m j).ownBlock=some (((((a.alloc (.cells d.toArray 43)).alloc (.cells #[.slice none 0 0,.map none,.slice none 0 0] 130)).alloc (.cells #[.slice none 0 0,.slice none 0 0,.slice none 0 0] 91)).alloc (.cells #[.pointer (some ⟨a.heap.size+1,0,none⟩),.pointer (some ⟨a.heap.size+1+1,0,none⟩),.slice none 0 0] 94)).alloc (.cells #[.pointer (some ⟨a.heap.size+1+1+1,0,none⟩)] 55)).heap.size)->(∃s h,Oz n (g.setCell ⟨e,0,none⟩ (.slice i m j)) e s (f++[h])/\(∀b,h.F b->a.heap.size<=b)/\(∀b,s.val.ownBlock=some b->c.val.ownBlock=some b\/a.heap.size<=b))/\bj (fun b=>b=e\/c.val.ownBlock=some b) a (g.setCell ⟨e,0,none⟩ (.slice i m j))):=by
  intro i m j g u q t;have G:aj ((a.alloc (.cells d.toArray 43)).alloc (.cells #[.slice none 0 0,.map none,.slice none 0 0] 130)) (a.heap.size+1) 130 [.slice none 0 0,.map none,.slice none 0 0]:=by
   have:=aj.new (a.alloc (.cells d.toArray 43)) 130 [.slice none 0 0,.map none,.slice none 0 0];simpa only[YM]using this
  have H:aj (((a.alloc (.cells d.toArray 43)).alloc (.cells #[.slice none 0 0,.map none,.slice none 0 0] 130)).alloc (.cells #[.slice none 0 0,.slice none 0 0,.slice none 0 0] 91)) (a.heap.size+1+1) 91 [.slice none 0 0,.slice none 0 0,.slice none 0 0]:=by
   have:=aj.new ((a.alloc (.cells d.toArray 43)).alloc (.cells #[.slice none 0 0,.map none,.slice none 0 0] 130)) 91 [.slice none 0 0,.slice none 0 0,.slice none 0 0];simpa only[YM]using this
  have I:aj ((((a.alloc (.cells d.toArray 43)).alloc (.cells #[.slice none 0 0,.map none,.slice none 0 0] 130)).alloc (.cells #[.slice none 0 0,.slice none 0 0,.slice none 0 0] 91)).alloc (.cells #[.pointer (some ⟨a.heap.size+1,0,none⟩),.pointer (some ⟨a.heap.size+1+1,0,none⟩),.slice none 0 0] 94)) (a.heap.size+1+1+1) 94 [.pointer (some ⟨a.heap.size+1,0,none⟩),.pointer (some ⟨a.heap.size+1+1,0,none⟩),.slice none 0 0]:=by
   have:=aj.new (((a.alloc (.cells d.toArray 43)).alloc (.cells #[.slice none 0 0,.map none,.slice none 0 0] 130)).alloc (.cells #[.slice none 0 0,.slice none 0 0,.slice none 0 0] 91)) 94 [.pointer (some ⟨a.heap.size+1,0,none⟩),.pointer (some ⟨a.heap.size+1+1,0,none⟩),.slice none 0 0];simpa only[YM]using this
  have K:gz (((((a.alloc (.cells d.toArray 43)).alloc (.cells #[.slice none 0 0,.map none,.slice none 0 0] 130)).alloc (.cells #[.slice none 0 0,.slice none 0 0,.slice none 0 0] 91)).alloc (.cells #[.pointer (some ⟨a.heap.size+1,0,none⟩),.pointer (some ⟨a.heap.size+1+1,0,none⟩),.slice none 0 0] 94)).alloc (.cells #[.pointer (some ⟨a.heap.size+1+1+1,0,none⟩)] 55)) (zw (a.heap.size+1+1+1) (a.heap.size+1) (a.heap.size+1+1)):=wL (I.alloc _) (((G.alloc _).alloc _).alloc _) ((H.alloc _).alloc _) (by omega) (by omega) (by omega);refine⟨⟨⟨i,m,j⟩,zw (a.heap.size+1+1+1) (a.heap.size+1) (a.heap.size+1+1),Oz.push (ps':=⟨i,m,j⟩) l o.o K (fun b r=>?_) u q t,?_,?_⟩,?_⟩
  .have:=ZG r;omega
  .intro b r;have:=ZG r;omega
  .intro b r;rcases t with k|k
   .exact SM (by show(Value.slice c.a c.n c.cap).ownBlock=_;rw[<-k];exact r)
   .have w:(Value.slice i m j).ownBlock=some b:=r;rw[k]at w;have:=lN w;have:=o.o.size;exact RM (by omega)
  .exact(bj.into (S:=fun b=>b=e\/c.val.ownBlock=some b) (bj.of_below_all o.o) q (fun b _ k=>RM k)).setCell (p:=⟨e,0,none⟩) (SM rfl) _
 clear l;go_enter Tryz.func19,Tryz.ntmps19;go_wp2_with fail;refine(rM _).mono ?_;rintro k U ⟨rfl,rfl⟩;go_wp2_with (at_builtin;refine rq (by rfl) (.tmp 44) (.tmp 50) 27 (by rfl) 0 55 _ 1 8 Tryz.underlying27 Tryz.infoPairP rfl (by decide) (.slice c.a c.n c.cap) f.length (f.map (fun h=>Cj h.pb)) (by rfl) E.o (some ⟨a.heap.size+1+1+1+1,0,none⟩) 1 1 [.pointer (some ⟨a.heap.size+1+1+1,0,none⟩)] (by rfl) rfl F.o (fun l=>by cases l) A.o B.o C.o (nN _) ?_;intro T g u q t;obtain⟨i,j,L,_⟩:=Nj u;subst L;have Q:g.cell? ⟨e,0,none⟩=some (.slice c.a c.n c.cap):=aj.cellK (v.o _ q) 0 _ rfl;have M:g.frozen? ⟨e,0,none⟩=false:=aj.frozen (v.o _ q) 0);go_ret;exact⟨rfl,D.o _ _ _ _ u q t⟩
end
end Go.Proofs.YtekegfbjbainhaaGreat
