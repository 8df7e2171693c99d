import Derived.Test.YtekegfbjbainhaaGreatKJoin26
set_option maxRecDepth 100000
set_option maxHeartbeats 8000000
set_option linter.unusedVariables false
set_option linter.unusedSimpArgs false
namespace Go.Proofs.YtekegfbjbainhaaGreat
open Go.RowKit
section
theorem cV(h:Nat)(m b p:dj)(n:List ej)(g:List (dj×List ej))(q:List (List UInt8))(d:Int)(k l:Value)(c:World)(e:Yj c h 0 m b p n g q)(u:g.length<=40)(f:az g.length d=true):
  CP 49 #[.pointer (some ⟨h,0,none⟩),.int .i64 d,k,l] c fun o r=>o=.returned (.tuple #[.slice none 0 0,.int .i64 4])/\Below c.heap.size c r:=by
 have i:=(vj (a:=b.a) (n':=b.n) (cap:=b.cap) e.hpast).1;have s:c.cell? ⟨h,1,none⟩=some (.slice b.a b.n b.cap):=aj.cell e.row 1 (by simp);have v:(b.n:Int)<=40:=by omega
 by_cases j:d<0
 .clear i e f;go_enter Tryz.func49,Tryz.ntmps49;go_wp2
  go_ret2
  exact⟨rfl,VM _ _⟩
 .have t:(b.n:Int)<=d:=by
   unfold az at f;simp[j]at f;omega
  clear i e f;go_enter Tryz.func49,Tryz.ntmps49;go_wp2
  go_ret2
  exact⟨rfl,VM _ _⟩
theorem yY(u:Nat)(D g G:dj)(E:List ej)(t:List (dj×List ej))(H:List (List UInt8))(s:Nat)(e f:dj)(i h:List UInt8)(c:World)(r:Yj c u 0 D g G E t H)(Q:t.length<=40)(M:s<t.length)(l:BS c e i)(m:BS c f h)(x:i.length<=maxLen)(z:h.length<=maxLen)(v:Qx i h=false):
  CP 49 #[.pointer (some ⟨u,0,none⟩),.int .i64 s,e.val,f.val] c fun F I=>F=.returned (.tuple #[.slice none 0 0,.int .i64 1])/\Below c.heap.size c I:=by
 have C:=(vj (a:=g.a) (n':=g.n) (cap:=g.cap) r.hpast).1;have J:c.cell? ⟨u,1,none⟩=some (.slice g.a g.n g.cap):=aj.cell r.row 1 (by simp);have R:(g.n:Int)<=40:=by omega
 have N:(s:Int)<g.n:=by omega
 have k:Hd (Calls _ _ _ _ _):=yq e.a e.n e.cap c (by rw[l.n];exact x);have j:Hd (Calls _ _ _ _ _):=yq f.a f.n f.cap c (by rw[m.n];exact z);have w:(decide (1<=e.n)&&decide (e.n<=12))=Zj i:=by rw[l.n];rfl
 have y:(decide (1<=f.n)&&decide (f.n<=12))=Zj h:=by rw[m.n];rfl
 rw[w]at k;rw[y]at j;have K:=wj (P:=Tryz.prog) c 38 9 5 e.a e.n e.cap i Tryz.underlying38 Tryz.underlying5 Tryz.underlying9 l.n l.sl l.nil;have L:=wj (P:=Tryz.prog) c 38 9 5 f.a f.n f.cap h Tryz.underlying38 Tryz.underlying5 Tryz.underlying9 m.n m.sl m.nil;have q:Zj i=true->Zj h=true->Op.bytesLess i h=false:=fun A B=>by simpa[Qx,A,B]using v
 clear C r w y l m v x z;unfold dj.val;cases p:Zj i with
 |false=>
  rw[p]at k;cases n:Zj h
  all_goals
   rw[n]at j;clear q;go_enter Tryz.func49,Tryz.ntmps49;go_wp2_with fail;refine k.o.mono ?_;rintro o d ⟨rfl,b⟩;obtain rfl:c=d:=b.symm;clear b;go_wp2_with fail;refine j.o.mono ?_;rintro o d ⟨rfl,b⟩;obtain rfl:c=d:=b.symm;clear b;go_wp2
   go_ret2
   exact⟨rfl,VM _ _⟩
 |true=>
  rw[p]at k;cases n:Zj h with
  |false=>
   rw[n]at j;clear q;go_enter Tryz.func49,Tryz.ntmps49;go_wp2_with fail;refine k.o.mono ?_;rintro o d ⟨rfl,b⟩;obtain rfl:c=d:=b.symm;clear b;go_wp2_with fail;refine j.o.mono ?_;rintro o d ⟨rfl,b⟩;obtain rfl:c=d:=b.symm;clear b;go_wp2
   go_ret2
   exact⟨rfl,VM _ _⟩
  |true=>
   rw[n]at j;have O:=q p n;clear q p n;go_enter Tryz.func49,Tryz.ntmps49;go_wp2_with fail;refine k.o.mono ?_;rintro o d ⟨rfl,b⟩;obtain rfl:c=d:=b.symm;clear b;go_wp2_with fail;refine j.o.mono ?_;rintro o d ⟨rfl,b⟩;obtain rfl:c=d:=b.symm;clear b;go_wp2
   go_ret2
   exact⟨rfl,VM _ _⟩
attribute [local go_sem↓] Go.wp_at_zero Go.wp_at_succ
theorem qK(S:Nat)(aC m aP:dj)(aD:List ej)(i:List (dj×List ej))(aR:List (List UInt8))(d:Nat)(f g:dj)(h j:List UInt8)(e:World)(A:Yj e S 0 aC m aP aD i aR)(b4:i.length<=40)(o:d<i.length)(C:Qv i[d].2)(k:BS e f h)(l:BS e g j)(N:Qx h j=true):
  CP 49 #[.pointer (some ⟨S,0,none⟩),.int .i64 d,f.val,g.val] e fun aO y=>∃r w t,aO=.returned (.tuple #[.slice r w t,.int .i64 0])/\rj y e.heap.size (.slice r w t) (Dy i[d].2 h j)/\Below e.heap.size e y:=by
 obtain⟨ac,av⟩:=jj.ofOwn (s:=m) A.hpast;have am:e.cell? ⟨S,1,none⟩=some (.slice m.a m.n m.cap):=aj.cell A.row 1 (by simp);obtain⟨al,aE,ab,Y,a0⟩:=ac d (by simpa using o);have b0:e.cell? ⟨al,aE+d,none⟩=some (.slice i[d].1.a i[d].1.n i[d].1.cap):=by rw[a0];simp[dj.val]
 have ax:(m.n:Int)<=40:=by omega
 have au:(d:Int)<m.n:=by omega
 obtain⟨⟨F,G⟩,b3⟩:(Zj h=true/\Zj j=true)/\Op.bytesLess h j=true:=by unfold Qx at N;simpa using N
 have ar:1<=h.length/\h.length<=12:=by unfold Zj at F;simpa using F
 have aA:1<=j.length/\j.length<=12:=by unfold Zj at G;simpa using G
 have V:Hd (Calls _ _ _ _ _):=yq f.a f.n f.cap e (by rw[k.n];unfold maxLen;omega);have W:Hd (Calls _ _ _ _ _):=yq g.a g.n g.cap e (by rw[l.n];unfold maxLen;omega);have a1:(decide (1<=f.n)&&decide (f.n<=12))=true:=by rw[k.n];exact F
 have ad:(decide (1<=g.n)&&decide (g.n<=12))=true:=by rw[l.n];exact G
 rw[a1]at V;rw[ad]at W;obtain⟨a3,a2⟩:=jj.ofOwn (s:=i[d].1) (A.hpok i[d] (bN o));have ag:Hd (Calls _ _ _ _ _):=SQ i[d].1 i[d].2 e a2 (by have:=C.2.2;omega) C.2.1 a3;have ao:=wj (P:=Tryz.prog) e 38 9 5 f.a f.n f.cap h Tryz.underlying38 Tryz.underlying5 Tryz.underlying9 k.n k.sl k.nil;have ap:=wj (P:=Tryz.prog) e 38 9 5 g.a g.n g.cap j Tryz.underlying38 Tryz.underlying5 Tryz.underlying9 l.n l.sl l.nil;have J:Hd (∀b,BB e b->(convert 38 9 (.slice f.a f.n f.cap)).run Tryz.prog b=.ok (.string ⟨h.toArray⟩) b):=fun b M=>wj (P:=Tryz.prog) b 38 9 5 f.a f.n f.cap h Tryz.underlying38 Tryz.underlying5 Tryz.underlying9 k.n (k.below M).sl k.nil;have K:Hd (∀b,BB e b->(convert 38 9 (.slice g.a g.n g.cap)).run Tryz.prog b=.ok (.string ⟨j.toArray⟩) b):=fun b M=>wj (P:=Tryz.prog) b 38 9 5 g.a g.n g.cap j Tryz.underlying38 Tryz.underlying5 Tryz.underlying9 l.n (l.below M).sl l.nil;have q:Hd (Qv i[d].2):=C;generalize i[d]=aI at*;obtain⟨b5,b7,b6⟩:=m;simp only at ab ax au am;subst ab;clear av A a1 ad k l ac a0 a3 a2 C N ar aA F G;unfold dj.val;go_enter Tryz.func49,Tryz.ntmps49;go_wp2_with fail;refine V.o.mono ?_;rintro n c ⟨rfl,v⟩;obtain rfl:e=c:=v.symm;clear v;go_wp2_with fail;refine W.o.mono ?_;rintro n c ⟨rfl,v⟩;obtain rfl:e=c:=v.symm;clear v;go_wp2_with fail;refine ag.o.mono ?_;rintro n c ⟨a,rfl,R,a8,aa,B,O⟩;obtain⟨I,af,x,ae,rest,a4,a5,H,a6,a7,_,_⟩:=TQ B q.o.2.1 (by have:=q.o.2.2;omega);have Q:Below c.heap.size c (c.alloc (.cells #[.slice a.a a.n a.cap] 146)).drew:=⟨rfl,rfl,rfl,by show _<=(c.alloc _).heap.size;simp,fun d o=>by show(c.alloc _).heap[d]? =_;exact Below.heap_alloc c _ d o⟩;have D:=bJ.below (lv:=a) (lvls:=R) ⟨a8,aa⟩ Q;have z:Hd (BB e (c.alloc (.cells #[.slice a.a a.n a.cap] 146)).drew):=O.trans (Q.mono O.size);have ai:Hd (Calls _ _ _ _ _):=ZZ a R I af x ae rest e.heap.size (c.alloc (.cells #[.slice a.a a.n a.cap] 146)).drew D.own a4 (by omega) H (by
  have X:=D.ok I (by omega);rw[(kN.1 H).2]at X;exact X)
 have ah:Hd (∀b,Below (c.alloc (.cells #[.slice a.a a.n a.cap] 146)).drew.heap.size (c.alloc (.cells #[.slice a.a a.n a.cap] 146)).drew b->CP 93 #[.agg #[.slice a.a a.n a.cap],.agg #[.int .i64 I,.slice x.a x.n x.cap],.string ⟨h.toArray⟩,.string ⟨j.toArray⟩] b fun n y=>∃r w t,n=.returned (.slice r w t)/\rj y b.heap.size (.slice r w t) (Dy aI.2 h j)/\Below b.heap.size b y):=fun b Y=>by
  have:=eZ a R e.heap.size h j (by rw[B];exact yw _ q.o.1 q.o.2.1 q.o.2.2) I 0 af _ (x,ae) b a5 (D.below Y) ⟨H,rfl⟩;rw[B]at this;unfold Dy;rw[a6,a7];exact this
 have aS:(c.alloc (.cells #[.slice a.a a.n a.cap] 146)).cell? ⟨c.heap.size,0,none⟩=some (.slice a.a a.n a.cap):=(aj.new c 146 [.slice a.a a.n a.cap]).cell 0 (by simp);have b1:=J.o _ z.o;have b2:=K.o _ z.o;clear a8 aa B O a4 a5 H a6 a7 Q D ao ap;go_wp2
 go_region_held3 (fun b=>b.cell? ⟨c.heap.size,0,none⟩=some (.slice a.a a.n a.cap)/\(convert 38 9 (.slice f.a f.n f.cap)).run Tryz.prog b=.ok (.string ⟨h.toArray⟩) b/\(convert 38 9 (.slice g.a g.n g.cap)).run Tryz.prog b=.ok (.string ⟨j.toArray⟩) b) (go_keep)
  (first
   |(go_at_call 85;refine ai.o.mono ?_;rintro n T ⟨rfl,E⟩;have u:=maj z.o (Below.mono E z.o.size);have b8:=J.o T u;have b9:=K.o T u;have aT:T.cell? ⟨c.heap.size,0,none⟩=some (.slice a.a a.n a.cap):=by(rw[E.cell (p:=⟨c.heap.size,0,none⟩) (by show c.heap.size<(c.alloc _).heap.size;simp)];exact aS))
   |(go_at_call 93;refine(ah.o _ E).mono ?_;rintro n U ⟨ak,aB,an,rfl,a9,Z⟩;have L:=maj u (Below.mono Z u.size);have bb:=J.o U L;have bc:=K.o U L;have ba:U.cell? ⟨c.heap.size,0,none⟩=some (.slice a.a a.n a.cap):=by(rw[Z.cell (p:=⟨c.heap.size,0,none⟩) (by have:=E.size;simp at this;show c.heap.size<_;omega)];exact aT)))
 all_goals
  go_wp2
  go_ret2
  exact⟨ak,aB,an,rfl,Hj a9 (fun d o=>by have:=(a9.lt d o).1;have:=u.size;omega),L⟩
end
section
attribute [local go_sem↓] Go.wp_at_zero Go.wp_at_succ
def Ey(e a b d:List UInt8):Nat×List ej:=
 if Qx a b=true then(match oJ e a b d with
  |none=>(5,[])
  |some c=>(0,c))else(1,[])
def jF(b d:List UInt8):Option (List ej×List UInt8)->Option (List ej)
 |none=>none
 |some (a,c)=>if c=[]then some (a.filter (yv b d))else none
def dk(f a g d:List UInt8):Option (List ej×List UInt8):=
 match Wq (some d) f with
 |none=>none
 |some ((c,b),e)=>Kq a g c b e
theorem eV(c a d b:List UInt8):oJ c a d b=jF a d (dk c a d b):=by
 unfold oJ dk;cases Wq (some b) c with
 |none=>rfl
 |some e=>rfl
def PV(a:World)(b:Nat×List ej)(e:Ending)(d:World):Prop:=∃(c:dj) (f:List (dj×dj)),e=.returned (.tuple #[c.val,.int .i64 (b.1:Int)])/\Below a.heap.size a d/\Qq d a.heap.size c f b.2
theorem OG(m n:List UInt8)(g:Nat->Prop)(e c:Nat)(a:dj)(b:World)(j:rz b g e none):
  CP 109 #[.pointer (some ⟨e,0,none⟩),.agg #[.int .i64 c,a.val],.string ⟨m.toArray⟩,.string ⟨n.toArray⟩] b (aQ b g e m n 0 none):=by
 have w:=j.lt;have i:Below b.heap.size b (b.alloc (.cells #[.int .i64 c,.slice a.a a.n a.cap] 80)):=tO;have d:Hd (rz (b.alloc (.cells #[.int .i64 c,.slice a.a a.n a.cap] 80)) g e none):=j.below i;have f:Hd (BB b (b.alloc (.cells #[.int .i64 c,.slice a.a a.n a.cap] 80))):=i;have k:Hd (aj (b.alloc (.cells #[.int .i64 c,.slice a.a a.n a.cap] 80)) b.heap.size 80 [.int .i64 c,.slice a.a a.n a.cap]):=aj.new b _ _;clear j i;unfold dj.val;go_enter Tryz.func109,Tryz.ntmps109;go_wp2
 go_loopw [9,10,11,12,13,14] (fun q o _ _ _ _ wr=>q=.slice none 0 0/\o=.int .i64 0/\Hd (wr=b.alloc (.cells #[.int .i64 c,.slice a.a a.n a.cap] 80))) (fun _ _ _ _ _ _ _=>0)
 case atStart=>exact⟨rfl,rfl,rfl⟩
 case round=>
  obtain⟨rfl,rfl,l⟩:=hrel;rw[<-l.o]at d f k;obtain⟨t,u⟩:=d.o.cells;have r:=k.o.cell 1 (by simp);simp only[cN,gN,Option.isNone_none]at r t;clear l;by_cases v:(0:Int)<a.n
  .go_wp2;go_ret;exact⟨⟨none,0,0⟩,[],[],rfl,bj.of_below_all f.o,d.o,Qq.nil _ _,TM _,fun p s h=>by cases h⟩
  .go_wp2;go_ret;exact⟨⟨none,0,0⟩,[],[],rfl,bj.of_below_all f.o,d.o,Qq.nil _ _,TM _,fun p s h=>by cases h⟩
theorem fV(t u c:dj)(f e h af:List UInt8)(i:World)(bO:af.length=8)(a6:BS i t f)(aa:BS i u e)(bf:BS i c h)(bg:c.n<=c.cap)(bc:f.length<=maxLen)(bk:e.length<=maxLen)(b4:h.length<=1000000000):
  CP 69 #[dV af,t.val,u.val,c.val] i (PV i (Ey af f e h)):=by
 obtain⟨j,k,l,m,n,o,p,q,rfl⟩:=uj af bO;have W:Below i.heap.size i (i.alloc (.cells (cO j k l m n o p q) 36)):=tO;have aD:Hd (aj (i.alloc (.cells (cO j k l m n o p q) 36)) i.heap.size 36 ([j,k,l,m,n,o,p,q].map fj)):=aj.new i 36 ([j,k,l,m,n,o,p,q].map fj);have b7:dV [j,k,l,m,n,o,p,q]=.agg (cO j k l m n o p q):=rfl;rw[b7];obtain⟨r,aB⟩:∃r,Ey [j,k,l,m,n,o,p,q] f e h=r:=⟨_,rfl⟩;rw[aB];have ai:Hd (Ey [j,k,l,m,n,o,p,q] f e h=r):=aB;go_enter Tryz.func69,Tryz.ntmps69;unfold dj.val;go_upto_region 1 with fail;generalize i.alloc (.cells (cO j k l m n o p q) 36)=a at*;have X:=a6.below W;have Y:=aa.below W;have E:Hd (Calls _ _ _ _ _):=yq t.a t.n t.cap a (by rw[a6.n];exact bc);have C:Hd (Calls _ _ _ _ _):=yq u.a u.n u.cap a (by rw[aa.n];exact bk);have bb:(decide (1<=t.n)&&decide (t.n<=12))=Zj f:=by rw[a6.n];rfl
 have bi:(decide (1<=u.n)&&decide (u.n<=12))=Zj e:=by rw[aa.n];rfl
 rw[bb]at E;rw[bi]at C;have ax:=wj (P:=Tryz.prog) a 38 9 5 t.a t.n t.cap f Tryz.underlying38 Tryz.underlying5 Tryz.underlying9 X.n X.sl X.nil;have aA:=wj (P:=Tryz.prog) a 38 9 5 u.a u.n u.cap e Tryz.underlying38 Tryz.underlying5 Tryz.underlying9 Y.n Y.sl Y.nil;have K:Hd (BB i a):=W;have bp:Hd (BS a t f):=X;have bw:Hd (BS a u e):=Y;have aI:Hd (BS a c h):=bf.below W;have aP:Hd (c.n<=c.cap):=bg;have bs:Hd (h.length<=1000000000):=b4;have T:Hd (Qx f e=(Zj f&&Zj e&&Op.bytesLess f e)):=rfl;have a4:Hd (Qx f e=false->r=(1,[])):=fun y=>by rw[<-ai.o];unfold Ey;rw[if_neg (by rw[y];simp)]
 have a3:Hd (∀an,BB a an->r=(1,[])->PV i r (.returned (.tuple #[.slice none 0 0,.int .i64 1])) an):=fun an bC d=>by rw[d];exact⟨⟨none,0,0⟩,[],rfl,K.o.trans (bC.mono K.o.size),Qq.nil _ _⟩
 clear X Y bb bi a6 aa bf bg bc bk b4 b7 aB W;cases M:Zj f with
 |false=>
  rw[M]at E;have S:Hd (r=(1,[])):=a4.o (by rw[T.o,M];rfl);cases F:Zj e
  all_goals
   rw[F]at C;go_wp2_with fail;refine E.o.mono ?_;rintro d A ⟨rfl,g⟩;obtain rfl:a=A:=g.symm;clear g;go_wp2_with fail;refine C.o.mono ?_;rintro d A ⟨rfl,g⟩;obtain rfl:a=A:=g.symm;clear g;go_wp2
   go_ret2
   exact a3.o _ (VM _ _) S.o
 |true=>
  rw[M]at E;cases F:Zj e with
  |false=>
   rw[F]at C;have S:Hd (r=(1,[])):=a4.o (by rw[T.o,M,F];rfl);go_wp2_with fail;refine E.o.mono ?_;rintro d A ⟨rfl,g⟩;obtain rfl:a=A:=g.symm;clear g;go_wp2_with fail;refine C.o.mono ?_;rintro d A ⟨rfl,g⟩;obtain rfl:a=A:=g.symm;clear g;go_wp2
   go_ret2
   exact a3.o _ (VM _ _) S.o
  |true=>
   rw[F]at C;go_wp2_with fail;refine E.o.mono ?_;rintro d A ⟨rfl,g⟩;obtain rfl:a=A:=g.symm;clear g;go_wp2_with fail;refine C.o.mono ?_;rintro d A ⟨rfl,g⟩;obtain rfl:a=A:=g.symm;clear g;cases bd:Op.bytesLess f e with
   |false=>
    have S:Hd (r=(1,[])):=a4.o (by rw[T.o,M,F,bd];rfl);go_wp2
    go_ret2
    exact a3.o _ (VM _ _) S.o
   |true=>
    have a5:Hd (r=(match oJ [j,k,l,m,n,o,p,q] f e h with
      |none=>(5,[])
      |some B=>(0,B))):=by
     unfold Hd;rw[<-ai.o];unfold Ey;rw[if_pos (by rw[T.o,M,F,bd];rfl)]
    clear a3 a4 T E C ai;go_upto_region 5 with fail;have ac:Below a.heap.size a (a.alloc (.cells #[.slice c.a c.n c.cap,.bool false] 77)):=tO;have b3:=aj.below aD.o aD.o.lt ac;have bD:=wj (P:=Tryz.prog) (a.alloc (.cells #[.slice c.a c.n c.cap,.bool false] 77)) 38 9 5 (some ⟨i.heap.size,0,none⟩) 8 8 [j,k,l,m,n,o,p,q] Tryz.underlying38 Tryz.underlying5 Tryz.underlying9 rfl (jq.of_row b3) (fun y=>by cases y);have a8:∀w,Oq c w->w<a.heap.size:=fun w ⟨a2,a0,d⟩=>by have:=aI.o.lt a2 a0;omega
    have G:rz (a.alloc (.cells #[.slice c.a c.n c.cap,.bool false] 77)) (Oq c) a.heap.size (some h):=
     ⟨c,h,false,⟨aj.new a _ _,⟨aI.o.below ac,aP.o,fun a2 a0=>⟨a2,a0,rfl⟩⟩,fun d=>by have:=a8 _ d;omega⟩,rfl⟩
    have aR:Hd (Calls _ _ _ _ _):=yJ (Oq c) a.heap.size (some h) [j,k,l,m,n,o,p,q] _ G (fun w Z=>by have:=a8 w Z;simp;omega);have br:Hd (∀w,Oq c w->w<a.heap.size):=a8;have aC:Hd (BB a (a.alloc (.cells #[.slice c.a c.n c.cap,.bool false] 77))):=ac;clear b3 ac G a8 aP ax aA;go_wp2_with fail;refine aR.o.mono ?_;rintro d x ⟨z,b,rfl,c0,b9,bh,be⟩;have av:Below a.heap.size a x:=aC.o.trans (b9.below (by simp) (fun w Z=>by omega));have ad:Below x.heap.size x (x.alloc (.cells #[.int .i64 z,.slice b.a b.n b.cap] 80)):=tO;have R:Hd (BB a (x.alloc (.cells #[.int .i64 z,.slice b.a b.n b.cap] 80))):=av.trans (ad.mono av.size);have al:Hd (rz (x.alloc (.cells #[.int .i64 z,.slice b.a b.n b.cap] 80)) (Oq c) a.heap.size ((Wq (some h) [j,k,l,m,n,o,p,q]).map (·.2))):=bh.below ad;have aO:Hd (aj (x.alloc (.cells #[.int .i64 z,.slice b.a b.n b.cap] 80)) x.heap.size 80 [.int .i64 z,.slice b.a b.n b.cap]):=aj.new x _ _;have aE:Hd (∀(O:Nat) (H:List ej) (a1:List UInt8),Wq (some h) [j,k,l,m,n,o,p,q]=some ((O,H),a1)->z=O/\jz (x.alloc (.cells #[.int .i64 z,.slice b.a b.n b.cap] 80)) (a.heap.size+1) b.val H):=fun O H a1 d=>by
     obtain⟨bB,y⟩:=be O H a1 d;have V:=lj y ad;exact⟨bB,by unfold jz;simpa using V⟩
    clear b9 bh be av ad aR aC bD;unfold dj.val;go_upto_region 7 with fail;generalize x.alloc (.cells #[.int .i64 z,.slice b.a b.n b.cap] 80)=D at*;generalize x.heap.size=c4 at*;have a7:=bp.o.below R.o;have ab:=bw.o.below R.o;have ax:=wj (P:=Tryz.prog) D 38 9 5 t.a t.n t.cap f Tryz.underlying38 Tryz.underlying5 Tryz.underlying9 a7.n a7.sl a7.nil;have aA:=wj (P:=Tryz.prog) D 38 9 5 u.a u.n u.cap e Tryz.underlying38 Tryz.underlying5 Tryz.underlying9 ab.n ab.sl ab.nil;have bm:=aO.o.cell 0 (by simp);have ae:=aO.o.cell 1 (by simp);simp only[cN,gN]at bm ae;have b0:Hd (i.heap.size<=D.heap.size):=WM K.o.size R.o.size;clear a7 ab;have aT:Hd (CP 109 #[.pointer (some ⟨a.heap.size,0,none⟩),.agg #[.int .i64 z,.slice b.a b.n b.cap],.string ⟨f.toArray⟩,.string ⟨e.toArray⟩] D (aQ D (Oq c) a.heap.size f e h.length (dk [j,k,l,m,n,o,p,q] f e h))):=by
     unfold dk;cases d:Wq (some h) [j,k,l,m,n,o,p,q]with
     |none=>
      have y:=al.o;rw[d]at y;refine Calls.mono (OG f e (Oq c) a.heap.size z b D y) ?_;rintro d bT ⟨Q,L,I,ao,V,ap,ar,b2,au⟩;exact⟨Q,L,I,ao,V,ap,ar,WM b2 (nN _),au⟩
     |some r=>
      obtain⟨⟨O,H⟩,bn⟩:=r;obtain⟨rfl,v⟩:=aE.o O H bn d;have y:=al.o;rw[d]at y;obtain⟨bR,bI⟩:=jj.ofOwn (s:=b) v;have c1:=gJ d;refine Calls.mono (bV f e z (Oq c) a.heap.size b H bn D y (fun w Z=>qN (br.o w Z) R.o.size) (ry d) bR bI (fun a2 a0=>by have:=NG v a2 a0;exact⟨this.2,by omega⟩) (by have:=bs.o;omega)) ?_;rintro d bT ⟨Q,L,I,ao,V,ap,ar,b2,au⟩;exact⟨Q,L,I,ao,V,ap,ar,by omega,au⟩
    rw[eV]at a5;generalize dk [j,k,l,m,n,o,p,q] f e h=U at*;clear aE al;go_wp2_with fail;refine aT.o.mono ?_;rintro d ag ⟨Q,L,I,rfl,ba,bP,b8,bE,b5⟩;have ah:Hd (BB i ag):=(K.o.trans (R.o.mono K.o.size)).trans (ba.below b0.o (fun w Z=>by have:=K.o.size;omega));have bo:Hd (Qq ag D.heap.size Q L I):=b8;have bv:Hd (∀B a1,U=some (B,a1)->I=B.filter (yv f e)):=b5;obtain⟨J,N,b1,G,v⟩:=bP;have c5:ag.cell? ⟨a.heap.size,0,none⟩=some (.slice J.a J.n J.cap):=aj.cell G.row 0 (by simp);have c6:ag.cell? ⟨a.heap.size,1,none⟩=some (.bool b1):=aj.cell G.row 1 (by simp);have aS:Hd (J.n=N.length):=G.sub.bs.n;clear G ba b8 bE b5 aT bm ae ax aA;unfold dj.val;cases b1 with
    |true=>
     have ak:Hd (r=(5,[])):=by
      unfold Hd;rw[a5.o];cases a9:U with
      |none=>rfl
      |some bl=>rw[a9]at v;simp at v
     clear v;go_wp2
     go_ret2
     rw[ak.o];exact⟨⟨none,0,0⟩,[],rfl,ah.o,Qq.nil _ _⟩
    |false=>
     obtain⟨B,b6⟩:∃B,U=some (B,N):=by
      cases a9:U with
      |none=>rw[a9]at v;simp at v
      |some bl=>obtain⟨ae,c3⟩:=bl;rw[a9]at v;simp at v;subst v;exact⟨ae,rfl⟩
     have am:Hd (U=some (B,N)):=b6;clear v b6;by_cases c2:J.n=0
     .have bA:Hd (N=[]):=ZN.1 (by have:=aS.o;omega);have bu:Hd (r=(0,I)):=by
       unfold Hd;rw[a5.o,am.o,bA.o];simp only[jF,if_true];rw[bv.o B N am.o]
      have bS:(J.n:Int)=0:=by omega
      go_wp2
      go_ret2
      rw[bu.o];exact⟨Q,L,rfl,ah.o,bo.o.toBase b0.o⟩
     .have ak:Hd (r=(5,[])):=by
       unfold Hd;rw[a5.o,am.o];have:N≠[]:=fun d=>by have:=aS.o;rw[d]at this;simp at this;omega
       simp[jF,this]
      have bS:(0:Int)<J.n:=by omega
      go_wp2
      go_ret2
      rw[ak.o];exact⟨⟨none,0,0⟩,[],rfl,ah.o,Qq.nil _ _⟩
def Hy(e b f c:List UInt8):Option (List ej):=match dk e b f c with
 |none=>none
 |some (a,d)=>if d=[]then some a else none
def gV(a:World)(e:Nat->Prop)(f:Option (List ej))(b:Ending)(d:World):Prop:=
 Below a.heap.size a d/\match f with
  |none=>b=.returned (.tuple #[.slice none 0 0,.bool false])
  |some g=>∃(c:dj) (h:List Pj),b=.returned (.tuple #[c.val,.bool true])/\lz 0 d e a.heap.size c h g
theorem DQ(U V c:dj)(r s q ab:List UInt8)(a:World)(b9:ab.length=8)(b1:BS a U r)(b3:BS a V s)(au:BS a c q)(b8:c.n<=c.cap)(b2:q.length<=1000000000):
  CP 60 #[dV ab,.slice U.a U.n U.cap,.slice V.a V.n V.cap,.slice c.a c.n c.cap] a (gV a (Oq c) (Hy ab r s q)):=by
 obtain⟨i,e,g,j,k,l,m,n,rfl⟩:=uj ab b9;rw[show dV [i,e,g,j,k,l,m,n]=.agg (cO i e g j k l m n)from rfl];have b0:Below a.heap.size a ((((a.alloc (.cells (cO i e g j k l m n) 36)).alloc (.cells #[.slice none 0 0] 67)).alloc (.cells #[.bool false] 4)).alloc (.cells #[.slice c.a c.n c.cap] 168)):=((tO.alloc (by simp) _).alloc (by simp;omega) _).alloc (by simp;omega) _;have F:Hd (aj ((((a.alloc (.cells (cO i e g j k l m n) 36)).alloc (.cells #[.slice none 0 0] 67)).alloc (.cells #[.bool false] 4)).alloc (.cells #[.slice c.a c.n c.cap] 168)) a.heap.size 36 ([i,e,g,j,k,l,m,n].map fj)):=((((aj.new a 36 ([i,e,g,j,k,l,m,n].map fj)).alloc _).alloc _).alloc _);have an:∀d,Oq c d->d<a.heap.size:=fun d ⟨R,P,h⟩=>by have:=au.lt R P;omega
 have aI:Hd (iz ((((a.alloc (.cells (cO i e g j k l m n) 36)).alloc (.cells #[.slice none 0 0] 67)).alloc (.cells #[.bool false] 4)).alloc (.cells #[.slice c.a c.n c.cap] 168)) (Oq c) (a.heap.size+1+1+1) q):=
  ⟨c,aj.new_at _ _ _ _ (by simp),⟨au.below b0,b8,fun R P=>⟨R,P,rfl⟩⟩,fun h=>by have:=an _ h;omega⟩
 have aB:Hd (aj ((((a.alloc (.cells (cO i e g j k l m n) 36)).alloc (.cells #[.slice none 0 0] 67)).alloc (.cells #[.bool false] 4)).alloc (.cells #[.slice c.a c.n c.cap] 168)) (a.heap.size+1) 67 [.slice none 0 0]):=((aj.new_at _ _ _ _ (by simp)).alloc _).alloc _;have aC:Hd (aj ((((a.alloc (.cells (cO i e g j k l m n) 36)).alloc (.cells #[.slice none 0 0] 67)).alloc (.cells #[.bool false] 4)).alloc (.cells #[.slice c.a c.n c.cap] 168)) (a.heap.size+1+1) 4 [.bool false]):=(aj.new_at _ _ _ _ (by simp)).alloc _;have a5:Hd (BB a ((((a.alloc (.cells (cO i e g j k l m n) 36)).alloc (.cells #[.slice none 0 0] 67)).alloc (.cells #[.bool false] 4)).alloc (.cells #[.slice c.a c.n c.cap] 168))):=b0;have c0:∀(aT:Fn) (first aR:Array Value) (a:World),(Instr.makeFunc aT first aR).run Tryz.prog a=.ok (.func aT first aR) a:=fun _ _ _ _=>rfl;clear b9 au b8
 go_enter_defers Tryz.func60,Tryz.ntmps60
 go_upto_region 3 with fail;generalize (((a.alloc (.cells (cO i e g j k l m n) 36)).alloc (.cells #[.slice none 0 0] 67)).alloc (.cells #[.bool false] 4)).alloc (.cells #[.slice c.a c.n c.cap] 168)=u at*;generalize bv:a.heap.size+1+1+1=E at*;generalize bu:a.heap.size+1+1=o at*;have Y:Hd (E=a.heap.size+3):=by unfold Hd;omega
 have K:Hd (o=a.heap.size+2):=by unfold Hd;omega
 clear bv bu;have bw:u.cell? ⟨a.heap.size,0,none⟩=some (.int .u8 i.toNat):=F.o.cell 0 (by simp);have bA:u.cell? ⟨a.heap.size,1,none⟩=some (.int .u8 e.toNat):=F.o.cell 1 (by simp);have bB:u.cell? ⟨a.heap.size,2,none⟩=some (.int .u8 g.toNat):=F.o.cell 2 (by simp);have bC:u.cell? ⟨a.heap.size,3,none⟩=some (.int .u8 j.toNat):=F.o.cell 3 (by simp);have bD:u.cell? ⟨a.heap.size,4,none⟩=some (.int .u8 k.toNat):=F.o.cell 4 (by simp);have bE:u.cell? ⟨a.heap.size,5,none⟩=some (.int .u8 l.toNat):=F.o.cell 5 (by simp);have bI:u.cell? ⟨a.heap.size,6,none⟩=some (.int .u8 m.toNat):=F.o.cell 6 (by simp);have bO:u.cell? ⟨a.heap.size,7,none⟩=some (.int .u8 n.toNat):=F.o.cell 7 (by simp);have aE:Hd (BS a U r):=b1;have aP:Hd (BS a V s):=b3;have a7:Hd (∀d,Oq c d->d<a.heap.size):=an;have bk:Hd (q.length<=1000000000):=b2;have ag:Hd (Calls _ _ _ _ _):=jY (Oq c) E q [i,e,g,j,k,l,m,n] u aI.o (fun d y=>qN (a7.o d y) a5.o.size) rfl;rw[show dV [i,e,g,j,k,l,m,n]=.agg (cO i e g j k l m n)from rfl]at ag;have ah:Hd (∀al,dk [i,e,g,j,k,l,m,n] r s q=al->Hy [i,e,g,j,k,l,m,n] r s q=match al with
   |none=>none
   |some (Z,Q)=>if Q=[]then some Z else none):=fun al h=>by unfold Hy;rw[h]
 have ai:Hd (dk [i,e,g,j,k,l,m,n] r s q=match Wq (some q) [i,e,g,j,k,l,m,n]with
   |none=>none
   |some ((a4,a3),Q)=>Kq r s a4 a3 Q):=rfl
 -- what the closure leaves, if the reader has given up
 have ae:Hd (∀(w:World) (ax:Value),aj w (a.heap.size+1) 67 [ax]->aj w o 4 [.bool false]->BB a w->Hy [i,e,g,j,k,l,m,n] r s q=none->CallsD Tryz.prog 102 #[.pointer (some ⟨a.heap.size+1,0,none⟩),.pointer (some ⟨o,0,none⟩)] (.panicking [{v:=.iface 166 (.agg #[]),recovered:=false}]) w fun h W ac=>h=.returned (.tuple #[])/\W=.panicking [{v:=.iface 166 (.agg #[]),recovered:=true}]/\ac.cell? ⟨a.heap.size+1,0,none⟩=some (.slice none 0 0)/\ac.cell? ⟨o,0,none⟩=some (.bool false)/\gV a (Oq c) (Hy [i,e,g,j,k,l,m,n] r s q) (.returned (.tuple #[.slice none 0 0,.bool false])) ac):=fun w ax M am b4 br=>by
  refine(qL (a.heap.size+1) o ax false w (M.cell 0 (by simp)) (M.frozen 0) (am.cell 0 (by simp)) (am.frozen 0) M.lt am.lt (by have:=K.o;omega)).mono ?_;rintro h W ac ⟨bn,bo,bp,x,A⟩;refine⟨bn,bo,x,A,b4.trans (bp.below b4.size (fun d y=>by have:=K.o;omega)),?_⟩;rw[br]
 have G:Hd (∀w:World,bj (fun d=>d=E) u w->aj w (a.heap.size+1) 67 [.slice none 0 0]/\aj w o 4 [.bool false]/\Below a.heap.size a w):=fun w ap=>
  ⟨aj.of_block aB.o (ap.block _ aB.o.lt (by have:=Y.o;omega)),aj.of_block aC.o (ap.block _ aC.o.lt (by have:=Y.o;have:=K.o;omega)),a5.o.trans (ap.below a5.o.size (fun d y=>by have:=Y.o;omega))⟩
 clear b1 b3 an b2 aI;go_wp2_with fail;refine ag.o.mono ?_;rintro h I ⟨N,D⟩;cases O:Wq (some q) [i,e,g,j,k,l,m,n]with
 |none=>
  rw[O]at D;obtain rfl:h=mz:=D;have J:Hd (Hy [i,e,g,j,k,l,m,n] r s q=none):=by unfold Hd;rw[ah.o _ (by rw[ai.o,O])]
  have X:Hd (CallsD _ _ _ _ _ _):=ae.o I _ (G.o I N).1 (G.o I N).2.1 (G.o I N).2.2 J.o;unfold mz;go_wp2;refine leaves_cons (f:=102) (args:=#[.pointer (some ⟨a.heap.size+1,0,none⟩),.pointer (some ⟨o,0,none⟩)]) (by simp) (by simp[go_sem]) ?_;refine X.o.mono ?_;rintro h W aA ⟨rfl,rfl,x,A,a1⟩;simp[Leaves,settle,results,Tryz.results60,go_sem,x,A];exact a1
 |some z=>
  obtain⟨⟨a4,a3⟩,Q⟩:=z;rw[O]at D;obtain⟨bm,bR,rfl,b5,ba⟩:=D;have ak:Hd (dk [i,e,g,j,k,l,m,n] r s q=Kq r s a4 a3 Q):=by unfold Hd;rw[ai.o,O]
  obtain⟨L,a0,B⟩:=G.o I N;have bS:Hd (BB a I):=B;have c1:a.heap.size<E:=by have:=Y.o;omega
  have bs:=gJ O;have aD:Hd (Calls _ _ _ _ _):=LG r s a4 (Oq c) E u.heap.size bm bR a3 Q U V I ba (fun d y=>qN (a7.o d y) B.size) (ry O) b5 N.size (aE.o.below B) (aP.o.below B) (fun R P h=>by have:=aE.o.lt R P;omega) (fun R P h=>by have:=aP.o.lt R P;omega) (by have:=bk.o;omega);have bi:Hd (bj (fun d=>d=E) u I):=N;clear O b5 ba bs N L a0 B ag bw bA bB bC bD bE bI bO ai;unfold dj.val;go_wp2_with fail;refine aD.o.mono ?_;rintro h t ⟨b6,D⟩;have a6:Hd (bj (fun d=>d=E) u t):=bi.o.trans b6;cases a2:Kq r s a4 a3 Q with
  |none=>
   rw[a2]at D;obtain rfl:h=mz:=D;have J:Hd (Hy [i,e,g,j,k,l,m,n] r s q=none):=by unfold Hd;rw[ah.o _ (by rw[ak.o,a2])]
   have X:Hd (CallsD _ _ _ _ _ _):=ae.o t _ (G.o t a6.o).1 (G.o t a6.o).2.1 (G.o t a6.o).2.2 J.o;unfold mz;go_wp2;refine leaves_cons (f:=102) (args:=#[.pointer (some ⟨a.heap.size+1,0,none⟩),.pointer (some ⟨o,0,none⟩)]) (by simp) (by simp[go_sem]) ?_;refine X.o.mono ?_;rintro h W aA ⟨rfl,rfl,x,A,a1⟩;simp[Leaves,settle,results,Tryz.results60,go_sem,x,A];exact a1
  |some z=>
   obtain⟨Z,aa⟩:=z;rw[a2]at D;obtain⟨b,be,rfl,ao,bb⟩:=D;obtain⟨L,a0,B⟩:=G.o t a6.o;have aO:Hd (Hy [i,e,g,j,k,l,m,n] r s q=if aa=[]then some Z else none):=by unfold Hd;rw[ah.o _ (by rw[ak.o,a2])]
   have C:bj (fun d=>d=a.heap.size+1) t (t.setCell ⟨a.heap.size+1,0,none⟩ (.slice b.a b.n b.cap)):=(bj.refl (fun d=>d=a.heap.size+1) t).setCell (p:=⟨a.heap.size+1,0,none⟩) rfl _;have S:Hd (aj (t.setCell ⟨a.heap.size+1,0,none⟩ (.slice b.a b.n b.cap)) (a.heap.size+1) 67 [.slice b.a b.n b.cap]):=by unfold Hd;simpa using aj.set L 0 (.slice b.a b.n b.cap)
   have T:Hd (aj (t.setCell ⟨a.heap.size+1,0,none⟩ (.slice b.a b.n b.cap)) o 4 [.bool false]):=aj.of_block a0 (C.block _ a0.lt (by have:=K.o;omega));have ad:Hd (BB a (t.setCell ⟨a.heap.size+1,0,none⟩ (.slice b.a b.n b.cap))):=B.trans (C.below B.size (fun d y=>by omega));have ar:∀z,Oq c z->¬z=a.heap.size+1:=fun z av h=>by have:=a7.o z av;omega
   have af:Hd (lz 0 (t.setCell ⟨a.heap.size+1,0,none⟩ (.slice b.a b.n b.cap)) (Oq c) u.heap.size b be Z):=ao.frame C (fun d y h=>xj ao.own L (by decide) (by rw[y,h])) ar;have bc:iz (t.setCell ⟨a.heap.size+1,0,none⟩ (.slice b.a b.n b.cap)) (Oq c) E aa:=bb.frame C (by have:=Y.o;omega) ar;have bh:Hd (Calls _ _ _ _ _):=kK (Oq c) E aa _ bc;have x:=L.cell 0 (by simp);have aS:=L.frozen 0;simp only[cN]at x;clear a2 ao bb C ar bc L a0 B b6 aD ak;unfold dj.val;go_upto_region 4 with fail;generalize t.setCell ⟨a.heap.size+1,0,none⟩ (.slice b.a b.n b.cap)=H at*;go_wp2_with fail;refine bh.o.mono ?_;rintro h bP ⟨bd,a8⟩;obtain rfl:H=bP:=bd.symm;clear bd x aS;by_cases a9:aa=[]
   .rw[if_pos a9]at a8;subst a8;have J:Hd (Hy [i,e,g,j,k,l,m,n] r s q=some Z):=by unfold Hd;rw[aO.o,if_pos a9]
    have x:=S.o.cell 0 (by simp);have aS:=S.o.frozen 0;have A:=T.o.cell 0 (by simp);have bT:=T.o.frozen 0;simp only[cN]at x A;have b7:a.heap.size+1≠o:=by have:=K.o;omega
    have C:bj (fun d=>d=a.heap.size+1\/d=o) H ((H.setCell ⟨a.heap.size+1,0,none⟩ (.slice b.a b.n b.cap)).setCell ⟨o,0,none⟩ (.bool true)):=((bj.refl (fun d=>d=a.heap.size+1\/d=o) H).setCell (p:=⟨a.heap.size+1,0,none⟩) (SM rfl) _).setCell (p:=⟨o,0,none⟩) (RM rfl) _;have bl:Hd (gV a (Oq c) (Hy [i,e,g,j,k,l,m,n] r s q) (.returned (.tuple #[.slice b.a b.n b.cap,.bool true])) ((H.setCell ⟨a.heap.size+1,0,none⟩ (.slice b.a b.n b.cap)).setCell ⟨o,0,none⟩ (.bool true))):=by
     refine⟨ad.o.trans (C.below ad.o.size (fun d y=>by have:=K.o;omega)),?_⟩;rw[J.o];refine⟨b,be,rfl,(af.o.frame C (fun d y h=>?_) (fun z av h=>by have:=a7.o z av;have:=K.o;omega)).toBase a5.o.size⟩;rcases h with h|h
     .exact xj af.o.own S.o (by decide) (by rw[y,h])
     .exact xj af.o.own T.o (by decide) (by rw[y,h])
    have e:((H.setCell ⟨a.heap.size+1,0,none⟩ (.slice b.a b.n b.cap)).setCell ⟨o,0,none⟩ (.bool true)).cell? ⟨a.heap.size+1,0,none⟩=some (.slice b.a b.n b.cap):=by
     have M:=aj.of_block (aj.set S.o 0 (.slice b.a b.n b.cap)) (((bj.refl (fun d=>d=o) _).setCell (p:=⟨o,0,none⟩) rfl (.bool true)).block _ (aj.lt (aj.set S.o 0 (.slice b.a b.n b.cap))) b7);exact M.cell 0 (by simp)
    have g:((H.setCell ⟨a.heap.size+1,0,none⟩ (.slice b.a b.n b.cap)).setCell ⟨o,0,none⟩ (.bool true)).cell? ⟨o,0,none⟩=some (.bool true):=by
     have M:=aj.of_block T.o (((bj.refl (fun d=>d=a.heap.size+1) _).setCell (p:=⟨a.heap.size+1,0,none⟩) rfl (.slice b.a b.n b.cap)).block _ T.o.lt (fun h=>b7 h.symm));exact(aj.set M 0 (.bool true)).cell 0 (by simp)
    have bf:Hd (_=_):=e;have bg:Hd (_=_):=g;clear e g C;go_wp2;refine leaves_cons (f:=102) (args:=#[.pointer (some ⟨a.heap.size+1,0,none⟩),.pointer (some ⟨o,0,none⟩)]) (by simp) (by simp[go_sem]) ?_;refine(fF ⟨a.heap.size+1,0,none⟩ ⟨o,0,none⟩ _).mono ?_;rintro h W aA ⟨rfl,rfl,rfl⟩;have e:=bf.o;have g:=bg.o;simp[Leaves,settle,results,Tryz.results60,go_sem,e,g];exact bl.o
   .rw[if_neg a9]at a8;obtain rfl:h=mz:=a8;have J:Hd (Hy [i,e,g,j,k,l,m,n] r s q=none):=by unfold Hd;rw[aO.o,if_neg a9]
    have X:Hd (CallsD _ _ _ _ _ _):=ae.o H _ S.o T.o ad.o J.o;unfold mz;go_wp2;refine leaves_cons (f:=102) (args:=#[.pointer (some ⟨a.heap.size+1,0,none⟩),.pointer (some ⟨o,0,none⟩)]) (by simp) (by simp[go_sem]) ?_;refine X.o.mono ?_;rintro h W aA ⟨rfl,rfl,x,A,a1⟩;simp[Leaves,settle,results,Tryz.results60,go_sem,x,A];exact a1
end
end Go.Proofs.YtekegfbjbainhaaGreat
