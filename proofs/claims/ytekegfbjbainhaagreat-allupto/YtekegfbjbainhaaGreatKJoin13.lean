import Derived.Deep.RegionHeld3
import Derived.Deep.DrawnRows
import Derived.Stop.BytesEq
import Derived.Deep.RegionWith
import Derived.Deep.MidRow
import Derived.Deep.QuietTactic
import Derived.BigQuiet
import Derived.Test.YtekegfbjbainhaaGreatKJoin12
import Derived.Great.Frames
set_option maxRecDepth 100000
set_option maxHeartbeats 2000000
set_option linter.unusedVariables false
set_option linter.unusedSimpArgs false
namespace Go.Proofs.YtekegfbjbainhaaGreat
open Go.RowKit
theorem pW(j:List Value)(X:Int)(b:ByteArray)(Y:Value)(a:World)(a8:j[0]? =some (.int .i64 1))(a9:j[1]? =some (.int .i64 X))(W:j[4]? =some (.string b))(G:b.size<=140737488351232):
  CP 19 #[Y,.agg j.toArray] a fun c Z=>c=.returned (.bool true)/\Below a.heap.size a Z:=by
 go_enter Tryz.func19,Tryz.ntmps19;go_wp2_with fail;refine(Dx b _ _ G).mono ?_;rintro c a0 ⟨m,D,rfl,h,f,H⟩;simp only[YM]at f H h;go_wp2_with fail;refine(xU m _ D b.data.toList a0 (by simp) (by simp;unfold maxLen;omega) h.sl).mono ?_;rintro c e ⟨rfl,g⟩;obtain⟨q,r,s,t,u,v,w,x,o⟩:=SF b.data.toList;have y:Hd (By b.data.toList=_):=o;rw[o];clear o;have A:e.cell? ⟨a.heap.size,4,none⟩=some (.string b):=by
  rw[g.cell (p:=⟨a.heap.size,4,none⟩) (by have:=f.size;simp at this;show a.heap.size<_;omega),f.cell (p:=⟨a.heap.size,4,none⟩) (by show a.heap.size<_;omega)];simp[go_sem,W]
 have a1:=g.size;have K:=f.size;simp only[YM]at K;have C:∀z:Obj,(e.alloc z).cell? ⟨a.heap.size,4,none⟩=some (.string b):=fun z=>by
  rw[<-A];exact Below.cell (B:=e.heap.size) tO (p:=⟨a.heap.size,4,none⟩) (by show a.heap.size<_;omega)
 go_wp2_with fail;refine(Ex b m D (a.heap.size+1) _ G ?_).mono ?_
 .exact(h.below g (TM _)).below tO (TM _)
 rintro c i ⟨rfl,k,I⟩;simp only[YM]at I;have l:=fun J (n:m=some ⟨J,0,none⟩)=>h.lt n;have a2:i.cell? ⟨a.heap.size,4,none⟩=some (.string b):=by
  rw[<-C];exact UN (k.block _ (by show a.heap.size<_;simp;omega) (fun c=>by have:=l _ c;simp only at this;omega))
 have d:aj i e.heap.size 36 [.int .u8 q,.int .u8 r,.int .u8 s,.int .u8 t,.int .u8 u,.int .u8 v,.int .u8 w,.int .u8 x]:=
  (aj.new e 36 _).of_block (k.block _ (by simp) (fun c=>by have:=l _ c;omega))
 have L:=d.cell 0 (by simp);have M:=d.cell 1 (by simp);have N:=d.cell 2 (by simp);have O:=d.cell 3 (by simp);have Q:=d.cell 4 (by simp);have R:=d.cell 5 (by simp);have S:=d.cell 6 (by simp);have T:=d.cell 7 (by simp);simp only[cN,gN]at L M N O Q R S T;have a6:=fun a=>run_bytes_of_string (P:=Tryz.prog) a 9 38 5 b Tryz.underlying9 Tryz.underlying38 Tryz.underlying5;have V:Hd (BB a i):=by
  have U:Below a.heap.size a e:=(tO.trans (f.mono (by omega))).trans (g.mono (by omega));exact(U.alloc (by omega) _).trans (k.below (by simp;omega) (fun J n=>by have:=l _ n;omega))
 clear A C k g f h d l;have a7:∀a,(Op.equalIn 10000 36 (Value.agg #[.int .u8 q,.int .u8 r,.int .u8 s,.int .u8 t,.int .u8 u,.int .u8 v,.int .u8 w,.int .u8 x]) (Value.agg #[.int .u8 q,.int .u8 r,.int .u8 s,.int .u8 t,.int .u8 u,.int .u8 v,.int .u8 w,.int .u8 x])).run Tryz.prog a=.ok true a:=fun a=>by
  have E:=run_equalIn_bytes (P:=Tryz.prog) a 9998 36 5 8 Tryz.underlying36 Tryz.underlying5 Tryz.sizeU8 (Aj b.data.toList) (Aj b.data.toList) rfl rfl;rw[beq_self_eq_true]at E;rw[<-y.o];exact E
 have a3:e.heap.size<i.heap.size:=by omega
 have a4:a.heap.size<i.heap.size:=by omega
 clear I H K a1;go_wp2
 go_region_with (first|(go_at_call 10;refine(tz _ _ _ b.data.toList _ (by simp) (by simp;unfold maxLen;omega) (by exact jq.mk (by simp) (rJ _ _ _ _ _))).mono ?_;rintro c aa ⟨rfl,F⟩;obtain⟨a5,_⟩:=LM F;rw[y.o]))
 all_goals
  go_wp2;go_ret;refine⟨rfl,maj ?_ (F.mono (by simp only[YM,daj];omega))⟩
  repeat' (first|(with_reducible exact V.o)|(with_reducible refine AN ?_)|(with_reducible refine faj ?_ ?_ _)|omega|(simp only[YM,daj];omega))
theorem wy(b:World)(a:List Value)(d:TypeId):(b.alloc (.cells a.toArray d)).rangeAt b.heap.size 0 a:=fun e f c=>by
 rw[sN,World.cell?_alloc_new];simpa using c
theorem Tryz.rowOp:∃a,Tryz.prog.underlying 43=some a/\a.isRow=true:=⟨_,Tryz.underlying43,rfl⟩
theorem Tryz.sizeOp:(Tryz.prog.info? 43).map (·.size)=some 24:=by kernel_rfl
theorem qW(a:List Value)(i:Int)(e:ByteArray)(j:Value)(b:World)(d:a.length=24)(p:a[0]? =some (.int .i64 1))(q:a[1]? =some (.int .i64 i))(r:a[4]? =some (.string e))(n:e.size<=140737488351232):
  CP 12 #[j,.agg a.toArray] b fun f s=>f=.returned (.bool true)/\Below b.heap.size b s:=by
 obtain⟨c,g,h⟩:=Tryz.rowOp;have o:Hd ((Tryz.prog.info? 43).map (·.size)=some a.length):=by rw[d];exact Tryz.sizeOp
 have k:Hd (Tryz.prog.underlying 43=some c):=g;have l:Hd (c.isRow=true):=h;have t:Hd (a.length=24):=d;clear g h d;go_enter Tryz.func12,Tryz.ntmps12;go_wp2_with (refine wpList_load_mid (by rfl) 43 (.tmp 3) (by rfl) b.heap.size 0 (by rfl) a c (wy b a 43) k.o l.o o.o ?_);refine(pW a i e j _ p q r n).mono ?_;rintro f u ⟨rfl,m⟩;go_wp2;go_ret;exact⟨rfl,tO.trans (m.mono (by simp))⟩
def lJ(e:World)(f:Option Addr)(g:Nat)(b:Nat->Fy):Prop:=
 ∀a,a<g->∃c d,f=some ⟨c,d,none⟩/\c<e.heap.size/\e.rangeAt c (d+a*24) (b a).cells/\(b a).s.size<=140737488351232/\(b a).t.size<=140737488351232/\(b a).u.size<=140737488351232
def DV(d:World)(c:Nat)(b:List Int):Prop:=∀a (e:a<b.length),d.cell? ⟨c,a,none⟩=some (.int .i64 b[a])
theorem TH(b:List Int)(a:Nat)(e:a<b.length)(c:Int):(b.take (a+1)).any (fun d=>c==d)=((b.take a).any (fun d=>c==d)||c==b[a]):=by
 rw[RN e,List.any_append];simp
structure tj where
 pb:Nat
 sb:Nat
 rb:Nat
 done:dj
 dn:Nat
 doneC:List Value
 N:Nat
 en:dj
 tr:dj
 mp:Option Nat
 es:List Tj
 xs:List Pj
 its:List ej
 tds:List Nd
 now:dj
 past:dj
 roots:dj
 nl:List ej
 pastL:List (dj×List ej)
 rl:List (List UInt8)
 T:List (List (List Nd))
 pp:List (List ej)
def tj.sF(a:tj)(b:Nat):Prop:=Ux a.sb a.en a.tr a.mp a.es a.xs a.tds b\/QX a.T b
def tj.rF(a:tj)(b:Nat):Prop:=xw a.rb a.now a.past a.roots a.pastL b
def tj.oF(a:tj)(b:Nat):Prop:=b=a.pb\/a.done.val.ownBlock=some b
def tj.F(a:tj)(b:Nat):Prop:=a.oF b\/a.sF b\/a.rF b
structure Fq(w:World)(d:tj):Prop where
 row:aj w d.pb 94 [Cj d.sb,Cj d.rb,d.done.val]
 hdone:w.ownsRow 0 103 18 d.done.val d.dn d.doneC
 sto:Az w d.sb d.N d.en d.tr d.mp d.es d.xs d.its d.tds
 ref:Yj w d.rb 0 d.now d.past d.roots d.nl d.pastL d.rl
 tre:gy w d.sb d.mp d.es d.T d.tds d.pp
 os:∀k,d.oF k->¬d.sF k
 or:∀k,d.oF k->¬d.rF k
 sr:∀k,d.sF k->¬d.rF k
structure gz(w:World)(d:tj):Prop where
 lay:Fq w d
 nl:d.nl=d.its
 rl:d.rl=d.tds.map sj
 pl:d.pastL.length=d.tds.length
 dl:d.dn=d.tds.length
 t40:d.tds.length<=40
 cnt:d.N<=500*d.tds.length
 pst:d.pastL.map (·.2)=d.pp
 dc:d.doneC=iy (d.tds.map sj)
theorem Fq.lt{e:World}{d:tj}(c:Fq e d):∀b,d.F b->b<e.heap.size:=fun b a=>by
 rcases a with(rfl|a)|a|a
 .exact aj.lt c.row
 .exact(c.hdone.lt b a).2
 .rcases a with a|a
  .exact c.sto.lt b a
  .exact c.tre.lt b a
 .exact c.ref.lt b a
theorem Fq.frame{h g:World}{S:Nat->Prop}{f:tj}(b:Fq h f)(e:bj S h g)(d:∀a,f.F a->¬S a):Fq g f:=
 ⟨aj.of_block b.row (e.block _ (aj.lt b.row) (d _ (SM (SM rfl)))),ij b.hdone e (fun a c=>d a (SM (RM c))),b.sto.frame e (fun a c=>d a (RM (SM (SM c)))),b.ref.frame e (fun a c=>d a (RM (RM c))),b.tre.frame e (fun a c=>d a (RM (SM (RM c)))),b.os,b.or,b.sr⟩
theorem Fq.below{w a:World}{b:tj}(d:Fq w b)(e:Below w.heap.size w a):Fq a b:=d.frame (bj.of_below_all (S:=fun _=>False) e) (fun _ _ c=>c)
theorem gz.frame{e c:World}{S:Nat->Prop}{b:tj}(a:gz e b)(g:bj S e c)(f:∀d,b.F d->¬S d):gz c b:=⟨a.lay.frame g f,a.nl,a.rl,a.pl,a.dl,a.t40,a.cnt,a.pst,a.dc⟩
theorem Fq.setSto{h p:World}{r:Nat->Prop}{b:tj}(d:Fq h b){q:Nat}{k l:dj}{f:Option Nat}{e:List Tj}{m:List Pj}{v:List ej}{g:List Nd}(A:Az p b.sb q k l f e m v g)(t:bj r h p)(x:∀a,r a->Ux b.sb b.en b.tr b.mp b.es b.xs b.tds a)
  (y:∀a,Ux b.sb k l f e m g a->a<h.heap.size->Ux b.sb b.en b.tr b.mp b.es b.xs b.tds a){i:List (List (List Nd))}{w:List (List ej)}(B:gy p b.sb f e i g w)(z:∀a,QX i a->a<h.heap.size->b.sF a):
  Fq p {b with N:=q,en:=k,tr:=l,mp:=f,es:=e,xs:=m,its:=v,tds:=g,T:=i,pp:=w}/\(∀a,tj.F {b with N:=q,en:=k,tr:=l,mp:=f,es:=e,xs:=m,its:=v,tds:=g,T:=i,pp:=w} a->a<h.heap.size->b.F a):=by
 have s:∀a,r a->b.sF a:=fun a c=>SM (x a c);have u:∀a,(Ux b.sb k l f e m g a\/QX i a)->a<h.heap.size->b.sF a:=fun a c o=>by
  rcases c with c|c
  .exact SM (y a c o)
  .exact z a c o
 refine⟨⟨aj.of_block d.row (t.block _ (aj.lt d.row) (fun j=>d.os _ (SM rfl) (s _ j))),ij d.hdone t (fun a c j=>d.os a (RM c) (s a j)),A,d.ref.frame t (fun a c j=>d.sr a (s a j) c),B,?_,d.or,?_⟩,?_⟩
 .intro a c n;exact d.os a c (u a n (d.lt a (SM c)))
 .intro a c n;exact d.sr a (u a c (d.ref.lt a n)) n
 .intro a c o;rcases c with c|c|c
  .exact SM c
  .exact RM (SM (u a c o))
  .exact RM (RM c)
theorem Fq.setRef{l q:World}{r:Nat->Prop}{d:tj}(c:Fq l d){h i k:dj}{o:List ej}{j:List (dj×List ej)}{p:List (List UInt8)}(t:Yj q d.rb 0 h i k o j p)(g:bj r l q)(f:∀a,r a->d.rF a)
  (n:∀a,xw d.rb h i k j a->a<l.heap.size->d.rF a):
  Fq q {d with now:=h,past:=i,roots:=k,nl:=o,pastL:=j,rl:=p}/\(∀a,tj.F {d with now:=h,past:=i,roots:=k,nl:=o,pastL:=j,rl:=p} a->a<l.heap.size->d.F a):=by
 refine⟨⟨aj.of_block c.row (g.block _ (aj.lt c.row) (fun e=>c.or _ (SM rfl) (f _ e))),ij c.hdone g (fun a b e=>c.or a (RM b) (f a e)),c.sto.frame g (fun a b e=>c.sr a (SM b) (f a e)),t,c.tre.frame g (fun a b e=>c.sr a (RM b) (f a e)),c.os,?_,?_⟩,?_⟩
 .intro a b m;exact c.or a b (n a m (c.lt a (SM b)))
 .intro a b m;exact c.sr a b (n a m (c.lt a (RM (SM b))))
 .intro a b s;rcases b with b|b|b
  .exact SM b
  .exact RM (SM b)
  .exact RM (RM (n a b s))
theorem Fq.setDone{g h:World}{m:Nat->Prop}{c:tj}(d:Fq g c){done:dj}{dn:Nat}{doneC:List Value}(p:aj h c.pb 94 [Cj c.sb,Cj c.rb,done.val])(o:h.ownsRow 0 103 18 done.val dn doneC)(j:bj m g h)(i:∀a,m a->c.oF a)
  (n:∀a,done.val.ownBlock=some a->a<g.heap.size->c.done.val.ownBlock=some a):
  Fq h {c with done:=done,dn:=dn,doneC:=doneC}/\(∀a,tj.F {c with done:=done,dn:=dn,doneC:=doneC} a->a<g.heap.size->c.F a):=by
 have l:∀a,(a=c.pb\/done.val.ownBlock=some a)->a<g.heap.size->c.oF a:=fun a b k=>by
  rcases b with b|b
  .exact SM b
  .exact RM (n a b k)
 refine⟨⟨p,o,d.sto.frame j (fun a b e=>d.os a (i a e) (SM b)),d.ref.frame j (fun a b e=>d.or a (i a e) b),d.tre.frame j (fun a b e=>d.os a (i a e) (RM b)),?_,?_,d.sr⟩,?_⟩
 .intro a b f;exact d.os a (l a b (d.lt a (RM (SM f)))) f
 .intro a b f;exact d.or a (l a b (d.ref.lt a f)) f
 .intro a b k;rcases b with b|b|b
  .exact SM (l a b k)
  .exact RM (SM b)
  .exact RM (RM b)
theorem lq.bs{h:World}{i:Nat}{d:ByteArray}{e:Option Addr}{f:Nat}(c:lq h i d e f):BS h ⟨e,d.size,f⟩ d.data.toList:=by
 refine⟨c.sl,by simp,?_,?_⟩
 .intro g;rcases c with⟨_,j,_⟩|⟨a,_,_⟩
  .exact j
  .rw[a]at g;cases g
 .intro l b;rcases c with⟨a,_,_⟩|⟨a,_,k⟩
  .rw[a]at b;cases b
  .rw[a]at b;cases b;exact k.lt
def Cz(a:tj)(d e:World):Prop:=∃b:tj,b.pb=a.pb/\gz e b/\bj a.F d e/\(∀c,b.F c->c<d.heap.size->a.F c)
theorem Cz.mk{a b:tj}{d e:World}(f:gz e b)(i:b.pb=a.pb)(g:bj a.F d e)(h:∀c,b.F c->c<d.heap.size->a.F c):Cz a d e:=⟨b,i,f,g,h⟩
theorem BS.drew{d:World}{c:dj}{b:List UInt8}(a:BS d c b):BS d.drew c b:=⟨a.sl,a.n,a.nil,a.lt⟩
theorem BS.ofString(c:World)(a:ByteArray)(b:Nat)(g:TypeId)(e:Nat×Nat):BS (c.alloc (.cells (bytesRow a b) g e)) ⟨some ⟨c.heap.size,0,none⟩,a.size,b⟩ a.data.toList:=
 ⟨jq.mk (by simp) (rJ _ _ _ _ _),by simp,fun d=>(by cases d),fun h f=>(by cases f;simp)⟩
theorem PU(b:tj)(m:List Value)(a5:Int)(g:ByteArray)(a6:Value)(d:World)(f:gz d b)(al:m[0]? =some (.int .i64 4))(am:m[2]? =some (.int .i64 a5))(a4:m[4]? =some (.string g))(Q:g.size<=140737488351232):
  CP 21 #[a6,.agg m.toArray,.pointer (some ⟨b.pb,0,none⟩)] d fun c aa=>c=.returned (.bool true)/\Cz b d aa:=by
 have X:Hd (BB d (d.alloc (.cells m.toArray 43))):=tO;have T:g.data.toList.length<=maxLen:=by simp;unfold maxLen;omega
 have G:Hd (g.data.toList.length<=maxLen):=T;have ai:b.pb<d.heap.size:=aj.lt f.lay.row;clear T;go_enter Tryz.func21,Tryz.ntmps21;go_wp2_with fail;refine(Dx g _ _ Q).mono ?_;rintro c w ⟨q,A,rfl,o,n,U⟩;simp only[YM]at n U o;have x:Hd (BB d w):=X.o.trans (n.mono (by omega));have k:=f.lay.below x.o;have W:=n.size;simp only[YM]at W;have a9:w.cell? ⟨b.pb,0,none⟩=some (.pointer (some ⟨b.sb,0,none⟩)):=aj.cell k.row 0 (by simp);have z:Hd (Calls _ _ _ _ _):=WL b.sb b.N b.en b.tr b.mp b.es b.xs b.its b.tds ⟨q,g.size,A⟩ g.data.toList w k.sto o.bs G.o;unfold dj.val at z;go_wp2_with fail;refine z.o.mono ?_;rintro c D ⟨rfl,ad,ar,R,i,O⟩;have a1:∀e,b.F e->e<d.heap.size:=f.lay.lt;have ak:b.sb<d.heap.size:=aj.lt f.lay.sto.row;obtain⟨E,B⟩:=k.setSto R i (fun e c=>by subst c;exact SM (SM rfl)) O (k.tre.next i (fun e c=>SM c) (fun e h _=>h)) (fun e h _=>RM h);have ab:=i.size;have N:lq D (d.heap.size+1) g q A:=o.frame i (by omega);have I:D.cell? ⟨d.heap.size,4,none⟩=some (.string g):=by
  rw[UN (a:=⟨d.heap.size,4,none⟩) (i.block d.heap.size (by omega) (by omega)),n.cell (p:=⟨d.heap.size,4,none⟩) (by show d.heap.size<_;omega)];simp[go_sem,a4]
 go_wp2_with fail;refine(Ex g q A (d.heap.size+1) _ Q N).mono ?_;rintro c j ⟨rfl,t,a3⟩;have u:=fun e (h:q=some ⟨e,0,none⟩)=>o.lt h;have ac:j.cell? ⟨d.heap.size,4,none⟩=some (.string g):=by
  rw[<-I];exact UN (t.block _ (by show d.heap.size<_;omega) (fun c=>by have:=u _ c;simp only at this;omega))
 have y:=E.frame t (fun e h c=>by have ae:=u _ c;have af:=a1 e (B e h (by omega));omega);have ao:j.cell? ⟨b.pb,1,none⟩=some (.pointer (some ⟨b.rb,0,none⟩)):=aj.cell y.row 1 (by simp);have ag:=fun d=>run_bytes_of_string (P:=Tryz.prog) d 9 38 5 g Tryz.underlying9 Tryz.underlying38 Tryz.underlying5;have M:bj b.F d j:=by
  have J:bj b.F d w:=bj.of_below_all x.o;have K:bj b.F d D:=J.into i (fun e h c=>by subst c;exact RM (SM (SM (SM (SM rfl)))));exact K.into t (fun e h c=>by have:=u _ c;omega)
 have Z:Hd (∀l r v s,BB j l->BS l ⟨r,v,s⟩ g.data.toList->CP 43 #[.pointer (some ⟨b.rb,0,none⟩),.slice r v s] l fun c H=>c=.returned (.int .i64 (rk b.its g.data.toList:Int))/\Cz b d H):=by
  intro l r v s C L;have F:=y.below C;have au:=C.size;refine(YL b.rb b.now b.past b.roots b.nl b.pastL b.rl ⟨r,v,s⟩ g.data.toList l F.ref (by rw[f.nl];exact f.lay.sto.len) L G.o L.nil).mono ?_;rintro c H ⟨rfl,an,a7,V,a8⟩;obtain⟨Y,a0⟩:=F.setRef a7 V (fun e c=>by subst c;exact SM rfl) a8;refine⟨by rw[f.nl],Cz.mk ⟨Y,?_,f.rl,f.pl,f.dl,f.t40,f.cnt,f.pst,f.dc⟩ rfl ?_ ?_⟩
  .show uk b.nl _=uk b.its _;rw[f.nl]
  .exact(M.into (bj.of_below_all (S:=b.F) C) (fun e _ c=>c)).into V (fun e _ c=>by subst c;exact RM (RM (SM rfl)))
  .intro e h ah;exact B e (a0 e h (by omega)) (by omega)
 have J:d.heap.size<j.heap.size:=by omega
 have K:b.pb<j.heap.size:=by omega
 clear n U o x k z R i O E B N I t u y M W ab a3 a9;go_wp2
 go_region_with (first|(go_at_call 43;refine(Z.o _ _ _ _ (by repeat' (first|(with_reducible exact VM _ _)|(with_reducible refine AN ?_)|(with_reducible refine faj ?_ ?_ _)|omega|(simp only[YM,daj];omega))) (by repeat' (first|(with_reducible exact BS.ofString _ _ _ _ _)|(with_reducible refine BS.drew ?_)))).mono ?_;rintro c ap ⟨rfl,a2⟩))
 all_goals
  go_wp2;go_ret;exact⟨rfl,a2⟩
theorem BS.ofString'(b:Nat)(d:World)(a:ByteArray)(c:Nat)(g:TypeId)(e:Nat×Nat)(f:b=d.heap.size):BS (d.alloc (.cells (bytesRow a c) g e)) ⟨some ⟨b,0,none⟩,a.size,c⟩ a.data.toList:=by
 subst f;exact BS.ofString _ _ _ _ _
theorem BS.alloc{w:World}{b:dj}{a:List UInt8}(d:BS w b a)(c:Obj):BS (w.alloc c) b a:=d.below tO
theorem QU(d:tj)(k:List Value)(ao:Int)(i g:ByteArray)(b2:Value)(c:World)(h:gz c d)(bm:k[0]? =some (.int .i64 3))(b1:k[2]? =some (.int .i64 ao))(an:k[4]? =some (.string i))(Z:k[5]? =some (.string g))(ag:i.size<=140737488351232)(ak:g.size<=140737488351232):
  CP 21 #[b2,.agg k.toArray,.pointer (some ⟨d.pb,0,none⟩)] c fun b b7=>b=.returned (.bool true)/\Cz d c b7:=by
 have ax:Hd (BB c (c.alloc (.cells k.toArray 43))):=tO;have ai:i.data.toList.length<=maxLen:=by simp;unfold maxLen;omega
 have a3:Hd (i.data.toList.length<=maxLen):=ai;have al:g.data.toList.length<=maxLen:=by simp;unfold maxLen;omega
 have a4:Hd (g.data.toList.length<=maxLen):=al;have bk:d.pb<c.heap.size:=aj.lt h.lay.row;clear ai al;go_enter Tryz.func21,Tryz.ntmps21;go_wp2_with fail;refine(Dx i _ _ ag).mono ?_;rintro b y ⟨t,C,rfl,G,n,am⟩;simp only[YM]at n am G;have av:=n.size;simp only[YM]at av;have N:y.cell? ⟨c.heap.size,2,none⟩=some (.int .i64 ao):=by
  rw[n.cell (p:=⟨c.heap.size,2,none⟩) (by show c.heap.size<_;omega)];simp[go_sem,b1]
 have b5:y.cell? ⟨c.heap.size,5,none⟩=some (.string g):=by
  rw[n.cell (p:=⟨c.heap.size,5,none⟩) (by show c.heap.size<_;omega)];simp[go_sem,Z]
 go_wp2_with fail;refine(Dx g _ _ ak).mono ?_;rintro b z ⟨r,O,rfl,J,u,aS⟩;have bb:=u.size;have H:lq z (c.heap.size+1) i t C:=G.below u (TM _);have R:Hd (BB c z):=(ax.o.trans (n.mono (by omega))).trans (u.mono (by omega));have s:=h.lay.below R.o;have b6:z.cell? ⟨d.pb,0,none⟩=some (.pointer (some ⟨d.sb,0,none⟩)):=aj.cell s.row 0 (by simp);have U:Hd (Calls _ _ _ _ _):=VL d.sb d.N d.en d.tr d.mp d.es d.xs d.its d.tds ⟨t,i.size,C⟩ ⟨r,g.size,O⟩ i.data.toList g.data.toList z s.sto H.bs J.bs a3.o a4.o;unfold dj.val at U;go_wp2_with fail;refine U.o.mono ?_;rintro b Q ⟨rfl,bf,br,ah,l,af⟩;have aa:∀e,d.F e->e<c.heap.size:=h.lay.lt;have bl:d.sb<c.heap.size:=aj.lt h.lay.sto.row;obtain⟨a0,F⟩:=s.setSto ah l (fun e b=>by subst b;exact SM (SM rfl)) af (s.tre.next l (fun e b=>SM b) (fun e f _=>f)) (fun e f _=>RM f);have bc:=l.size;have ac:lq Q (c.heap.size+1) i t C:=H.frame l (by omega);have ae:lq Q y.heap.size g r O:=J.frame l (by omega);have X:∀j m,k[j]? =some m->Q.cell? ⟨c.heap.size,j,none⟩=some m:=fun j m Y=>by
  rw[UN (a:=⟨c.heap.size,j,none⟩) (l.block c.heap.size (by omega) (by omega)),u.cell (p:=⟨c.heap.size,j,none⟩) (by show c.heap.size<_;omega),n.cell (p:=⟨c.heap.size,j,none⟩) (by show c.heap.size<_;omega)];simp[go_sem,Y]
 have aC:=X 4 _ an;go_wp2_with fail;refine(Ex i t C (c.heap.size+1) _ ag ac).mono ?_;rintro b ap ⟨rfl,v,aT⟩;have x:=fun e (f:t=some ⟨e,0,none⟩)=>H.lt f;have K:∀j m,k[j]? =some m->ap.cell? ⟨c.heap.size,j,none⟩=some m:=fun j m Y=>by
  rw[<-X j m Y];exact UN (v.block _ (by show c.heap.size<_;omega) (fun b=>by have:=x _ b;simp only at this;omega))
 have aD:=K 5 _ Z;have W:lq ap y.heap.size g r O:=by
  rcases ae with aP|⟨b8,b9,ar⟩
  .exact SM aP
  .exact RM ⟨b8,b9,aj.of_block ar (v.block _ ar.lt (fun b=>by
    have:=x _ b;rcases G with⟨au,_⟩|⟨au,_,ba⟩
    .rw[au]at b;cases b
    .have:=ba.lt;omega))⟩
 clear aC;go_wp2_with fail;refine(Ex g r O y.heap.size _ ak W).mono ?_;rintro b o ⟨rfl,w,b0⟩;have I:=fun e (f:r=some ⟨e,0,none⟩)=>W.lt f;have ad:=fun e (f:r=some ⟨e,0,none⟩)=>J.lt f;have bd:o.cell? ⟨c.heap.size,4,none⟩=some (.string i):=by
  rw[<-K 4 _ an];exact UN (w.block _ (by show c.heap.size<_;omega) (fun b=>by have:=I _ b;simp only at this;omega))
 have be:o.cell? ⟨c.heap.size,5,none⟩=some (.string g):=by
  rw[<-K 5 _ Z];exact UN (w.block _ (by show c.heap.size<_;omega) (fun b=>by have:=I _ b;simp only at this;omega))
 have a1:=a0.frame v (fun e f b=>by have aE:=x _ b;have aI:=aa e (F e f (by omega));omega);have T:=a1.frame w (fun e f b=>by have aE:=ad _ b;have aI:=aa e (F e f (by omega));omega);have bo:o.cell? ⟨d.pb,1,none⟩=some (.pointer (some ⟨d.rb,0,none⟩)):=aj.cell T.row 1 (by simp);have bg:=fun c=>run_bytes_of_string (P:=Tryz.prog) c 9 38 5 i Tryz.underlying9 Tryz.underlying38 Tryz.underlying5;have bh:=fun c=>run_bytes_of_string (P:=Tryz.prog) c 9 38 5 g Tryz.underlying9 Tryz.underlying38 Tryz.underlying5;have ab:bj d.F c o:=by
  have a6:bj d.F c z:=bj.of_below_all R.o;have a7:bj d.F c Q:=a6.into l (fun e f b=>by subst b;exact RM (SM (SM (SM (SM rfl)))));exact(a7.into v (fun e f b=>by have:=x _ b;omega)).into w (fun e f b=>by have:=I _ b;omega)
 have aB:Hd (∀q A L D B M E,BB o q->BS q ⟨A,L,D⟩ i.data.toList->BS q ⟨B,M,E⟩ g.data.toList->CP 41 #[.pointer (some ⟨d.rb,0,none⟩),.slice A L D,.slice B M E] q fun b a5=>b=.returned (.int .i64 (jk d.its i.data.toList g.data.toList:Int))/\Cz d c a5):=by
  intro q A L D B M E V a8 a9;have a2:=T.below V;have bs:=V.size;refine(XL d.rb d.now d.past d.roots d.nl d.pastL d.rl ⟨A,L,D⟩ ⟨B,M,E⟩ i.data.toList g.data.toList q a2.ref (by rw[h.nl];exact h.lay.sto.len) a8 a9 a3.o a4.o a8.nil a9.nil).mono ?_;rintro b a5 ⟨rfl,bn,b3,N,b4⟩;obtain⟨aA,aO⟩:=a2.setRef b3 N (fun e b=>by subst b;exact SM rfl) b4;refine⟨by rw[h.nl],Cz.mk ⟨aA,?_,h.rl,h.pl,h.dl,h.t40,h.cnt,h.pst,h.dc⟩ rfl ?_ ?_⟩
  .show qk d.nl _ _=qk d.its _ _;rw[h.nl]
  .exact(ab.into (bj.of_below_all (S:=d.F) V) (fun e _ b=>b)).into N (fun e _ b=>by subst b;exact RM (RM (SM rfl)))
  .intro e f bi;exact F e (aO e f (by omega)) (by omega)
 have a6:c.heap.size<o.heap.size:=by omega
 have a7:d.pb<o.heap.size:=by omega
 clear n am G u aS H J R s U ah l af a0 F ac ae v w x I ad a1 T ab av bb bc aT b0 b6 N b5 X K aD W;go_wp2
 go_region_with (first|(go_at_call 41;refine(aB.o _ _ _ _ _ _ _ (by repeat' (first|(with_reducible exact VM _ _)|(with_reducible refine AN ?_)|(with_reducible refine faj ?_ ?_ _)|omega|(simp only[YM,daj];omega))) (by repeat' (first|(with_reducible refine BS.ofString' _ _ _ _ _ _ ?_;simp)|(with_reducible refine BS.drew ?_)|(with_reducible refine BS.alloc ?_ _))) (by repeat' (first|(with_reducible refine BS.ofString' _ _ _ _ _ _ ?_;simp)|(with_reducible refine BS.drew ?_)|(with_reducible refine BS.alloc ?_ _)))).mono ?_;rintro b bp ⟨rfl,aR⟩))
 all_goals
  go_wp2;go_ret;exact⟨rfl,aR⟩
def Lz(a b:Int)(k l m n o p q r c d e f g h i j:UInt8):List Value:=[.int .i64 a,.int .u8 k.toNat,.int .u8 l.toNat,.int .u8 m.toNat,.int .u8 n.toNat,.int .u8 o.toNat,.int .u8 p.toNat,.int .u8 q.toNat,.int .u8 r.toNat,.int .i64 b,.int .u8 c.toNat,.int .u8 d.toNat,.int .u8 e.toNat,.int .u8 f.toNat,.int .u8 g.toNat,.int .u8 h.toNat,.int .u8 i.toNat,.int .u8 j.toNat]
theorem bX{c d:Int}{m n o p q r s t e f g h i j k l:UInt8}:∀b∈Lz c d m n o p q r s t e f g h i j k l,b.oneCell'=true:=by
 intro b a;simp only[Lz,IN,jaj,or_false]at a;rcases a with rfl|rfl|rfl|rfl|rfl|rfl|rfl|rfl|rfl|rfl|rfl|rfl|rfl|rfl|rfl|rfl|rfl|rfl<;>rfl
theorem Tryz.infoCommit:(Tryz.prog.info? 103).map (fun a=>(a.zero,a.size,a.bytes))=some (some (.agg Mq.toArray),18,32):=by kernel_rfl
theorem Fq.pushDone{f d:World}{a:tj}(g:Fq f a){done':dj}{C:List Value}(k:d.ownsRow 0 103 18 done'.val (a.dn+1) (a.doneC++C))(h:bj (fun b=>a.done.val.ownBlock=some b) f d)(o:done'.val.ownBlock=a.done.val.ownBlock\/done'.val.ownBlock=some f.heap.size):
  Fq (d.setCell ⟨a.pb,2,none⟩ done'.val) {a with done:=done',dn:=a.dn+1,doneC:=a.doneC++C}/\(∀b,tj.F {a with done:=done',dn:=a.dn+1,doneC:=a.doneC++C} b->b<f.heap.size->a.F b)/\bj a.F f (d.setCell ⟨a.pb,2,none⟩ done'.val):=by
 have l:aj d a.pb 94 [Cj a.sb,Cj a.rb,a.done.val]:=aj.of_block g.row (h.block _ (aj.lt g.row) (fun e=>xj g.hdone g.row (by decide) e));have i:bj (fun b=>b=a.pb) d (d.setCell ⟨a.pb,2,none⟩ done'.val):=(bj.refl (fun b=>b=a.pb) _).setCell (p:=⟨a.pb,2,none⟩) rfl _;have j:bj a.oF f (d.setCell ⟨a.pb,2,none⟩ done'.val):=bj.into (h.mono (fun b _ c=>RM c)) i (fun b _ c=>SM c);obtain⟨m,n⟩:=g.setDone (done:=done') (dn:=a.dn+1) (doneC:=a.doneC++C) (by simpa using aj.set l 2 done'.val) (ij k i (fun b c e=>xj k l (by decide) (by rw[c,e]))) j (fun b c=>c) (fun b c q=>by
  rcases o with e|e
  .rw[<-e];exact c
  .rw[e]at c;have:=lN c;omega)
 exact⟨m,n,j.mono (fun b _ c=>SM c)⟩
theorem NM(b c l m n o p q r s d e f g h i j k:Value)(a:World):(Instr.buildSlice 92 1 #[(0,Value.agg #[b,c,l,m,n,o,p,q,r,s,d,e,f,g,h,i,j,k])]).run Tryz.prog a=.ok (.slice (some ⟨a.heap.size,0,none⟩) 1 1) (a.alloc (.cells #[b,c,l,m,n,o,p,q,r,s,d,e,f,g,h,i,j,k] 103)):=by
 kernel_rfl
theorem UH(a:List Value)(c:a.length=18)(b:World):(Instr.buildSlice 92 1 #[(0,Value.agg a.toArray)]).run Tryz.prog b=.ok (.slice (some ⟨b.heap.size,0,none⟩) 1 1) (b.alloc (.cells a.toArray 103)):=by
 match a,c with
 |[d,e,n,o,p,q,r,s,t,u,f,g,h,i,j,k,l,m],_=>exact NM d e n o p q r s t u f g h i j k l m b
theorem eJ{e:Program}{i:Region.Mode}{d:Array Oper}{f:Exit->Act->World->Prop}{g k:Nat}{j:Oper}{h:Array Bool}{a:Act}{b:World}(o:d[g]? =some j)(n:j.guard=none)(p:Region.ready i d h=[g])
  (l:∀c:Act->World->Prop,(∀a b,wpAny e i d f k (h.setIfInBounds g true) a b->c a b)->Oper.wp e j a b c f):wpAny e i d f (k+1) h a b:=
 wpAny_ready p (Iaj _ _) (AllReady.cons o (fun c m=>by rw[if_pos (by simp[Region.wanted,n])];exact l c m) AllReady.nil)
theorem iU{e:Program}{h:Region.Mode}{d:Array Oper}{f:Exit->Act->World->Prop}{k l i:Nat}{m n:Oper}{g:Array Bool}{b:Act}{c:World}(s:d[k]? =some m)(q:m.guard=none)(t:d[l]? =some n)(r:n.guard=none)(u:Region.ready h d g=[k,l])
  (o:∀a:Act->World->Prop,(∀b c,wpAny e h d f i (g.setIfInBounds k true) b c->a b c)->Oper.wp e m b c a f)
  (p:∀a:Act->World->Prop,(∀b c,wpAny e h d f i (g.setIfInBounds l true) b c->a b c)->Oper.wp e n b c a f):wpAny e h d f (i+1) g b c:=
 wpAny_ready u (Iaj _ _) (AllReady.cons s (fun a j=>by rw[if_pos (by simp[Region.wanted,q])];exact o a j) (AllReady.cons t (fun a j=>by rw[if_pos (by simp[Region.wanted,r])];exact p a j) AllReady.nil))
theorem cX{b:Oper}{a:Act}{c:World}{d:Act->World->Prop}{i:Exit->Act->World->Prop}(h:Operand)(k:b.op=.load 92 h)
  (e f:Nat)(g:Value)(l:a.eval h=.pointer (some ⟨e,f,none⟩))(m:c.cell? ⟨e,f,none⟩=some g)
  (j:d (a.put b.dst g) c):Oper.wp Tryz.prog b a c d i:=by
 unfold Oper.wp execOp;simp only[k,l];go_simp;exact j
theorem nG{e:Oper}{a:Act}{d:World}{f:Act->World->Prop}{l:Exit->Act->World->Prop}(j k:Operand)(n:e.op=.store 92 j k)
  (b c:Nat)(q:Value)(i:Option Addr)(h g:Nat)(o:a.eval j=.pointer (some ⟨b,c,none⟩))(p:a.eval k=.slice i h g)(r:d.cell? ⟨b,c,none⟩=some q)(s:d.frozen? ⟨b,c,none⟩=false)
  (m:f (a.put e.dst undef) (d.setCell ⟨b,c,none⟩ (.slice i h g))):Oper.wp Tryz.prog e a d f l:=by
 unfold Oper.wp execOp;simp only[n,o,p];go_simp;exact m
theorem YQ{d:Oper}{c:Act}{e:World}{f:Act->World->Prop}{j:Exit->Act->World->Prop}(h g:TypeId)(i:Operand)(m:d.op=.buildSlice h 1 #[(0,i)])
  (a:List Value)(n:c.eval i=.agg a.toArray)(l:∀b,(Instr.buildSlice h 1 #[(0,.agg a.toArray)]).run Tryz.prog b=.ok (.slice (some ⟨b.heap.size,0,none⟩) 1 1) (b.alloc (.cells a.toArray g)))
  (k:f (c.put d.dst (.slice (some ⟨e.heap.size,0,none⟩) 1 1)) (e.alloc (.cells a.toArray g))):Oper.wp Tryz.prog d c e f j:=by
 unfold Oper.wp execOp;simp only[m,List.map_toArray,ZM,dN,n,Sem.run_bind,l,Result.andThen_ok,Sem.run_pure];exact k
structure SX(md:Region.Mode)(ops:Array Oper)(M:Array Bool):Prop where
 r7:Region.ready md ops M=[7]
 f8:Region.free md ops (M.setIfInBounds 7 true) 8=true
 r8:(Region.ready md ops (M.setIfInBounds 7 true)).contains 8=true
 f9:Region.free md ops ((M.setIfInBounds 7 true).setIfInBounds 8 true) 9=true
 r9:(Region.ready md ops ((M.setIfInBounds 7 true).setIfInBounds 8 true)).contains 9=true
 r10:Region.ready md ops (((M.setIfInBounds 7 true).setIfInBounds 8 true).setIfInBounds 9 true)=[10]
 rd:Region.ready md ops ((((M.setIfInBounds 7 true).setIfInBounds 8 true).setIfInBounds 9 true).setIfInBounds 10 true)=[]
structure jU(ops:Array Oper)(D p q:Nat)(o0 o1 o2 o3 o4 o5 o6 o7 o8 o9 o10:Oper):Prop where
 e0:ops[0]? =some o0
 e1:ops[1]? =some o1
 e2:ops[2]? =some o2
 e3:ops[3]? =some o3
 e4:ops[4]? =some o4
 e5:ops[5]? =some o5
 e6:ops[6]? =some o6
 e7:ops[7]? =some o7
 e8:ops[8]? =some o8
 e9:ops[9]? =some o9
 e10:ops[10]? =some o10
 d0:o0.dst=some D
 d1:o1.dst=some (D+1)
 d2:o2.dst=some (D+2)
 d3:o3.dst=some (D+3)
 d4:o4.dst=some (D+4)
 d5:o5.dst=some (D+5)
 d6:o6.dst=some (D+6)
 d7:o7.dst=some (D+7)
 d8:o8.dst=some (D+8)
 d9:o9.dst=some (D+9)
 d10:o10.dst=none
 g4:o4.guard=none
 g5:o5.guard=none
 g6:o6.guard=none
 g7:o7.guard=none
 g10:o10.guard=none
 p4:o4.op=.load 92 (.tmp (D+3))
 p5:o5.op=.load 103 (.tmp q)
 p6:o6.op=.buildSlice 92 1 #[(0,.tmp (D+5))]
 p7:o7.op=.call {callee:=.builtin .append,args:=#[.tmp (D+4),.tmp (D+6)],argTypes:=#[92,92]}
 p10:o10.op=.store 92 (.tmp (D+9)) (.tmp (D+7))
 sel:Region.noSelect ops=true
def VH(e:Act)(a:Nat)(b c g d f h:Value):Act:=(((((((((e.put (some a) b).put (some (a+1)) b).put (some (a+2)) b).put (some (a+3)) c).put (some (a+4)) g).put (some (a+5)) d).put (some (a+6)) f).put (some (a+7)) h).put (some (a+8)) b).put (some (a+9)) c
theorem dX(a:Act)(b c:Nat)(e d:Value)(h:b≠c):(a.put (some b) e).put (some c) d=(a.put (some c) d).put (some b) e:=Act.put_comm a e d (fun i f g=>h (by cases f;cases g;rfl))
theorem ZQ{F:Region.Mode}{t:Array Oper}{u:Exit->Act->World->Prop}{e a3 a4:Nat}{U V X Y Z a0 a1 a2 G H W:Oper}(b:jU t e a3 a4 U V X Y Z a0 a1 a2 G H W){B:Array Bool}(k:SX F t B)
  (C:∀q g m a d,u (.panic m) (a.put q g) d->u (.panic m) a d)(c l:Nat)(o:dj)(x:Nat)(p:List Value)(M:p.length=18)(N:∀a5∈p,a5.oneCell'=true)(n:Nat)(w:List Value)(a8:n<=1000)
  (a6:∀a:Act,a.eval (.tmp e)=.pointer (some ⟨c,0,none⟩)->Yields Tryz.prog t G (.pointer (some ⟨c,0,none⟩)) a)(a7:∀a:Act,a.eval (.tmp (e+8))=.pointer (some ⟨c,0,none⟩)->Yields Tryz.prog t H (.pointer (some ⟨c,l,none⟩)) a)
  (a:Act)(d:World)(a9:e+10<a.tmps.size)(J:a.eval (.tmp e)=.pointer (some ⟨c,0,none⟩))(K:a.eval (.tmp (e+4))=o.val)(L:a.eval (.tmp (e+6))=.slice (some ⟨x,0,none⟩) 1 1)
  (R:d.ownsRow 0 103 18 o.val n w)(O:jj d (some ⟨x,0,none⟩) p)
  (Q:∀f,bj (fun A=>o.val.ownBlock=some A) d f->∃g,f.cell? ⟨c,l,none⟩=some g/\f.frozen? ⟨c,l,none⟩=false)
  (r:∀(h:Option Addr) (s j:Nat) (f:World),f.ownsRow 0 103 18 (.slice h s j) (n+1) (w++p)->bj (fun A=>o.val.ownBlock=some A) d f->((Value.slice h s j).ownBlock=o.val.ownBlock\/(Value.slice h s j).ownBlock=some d.heap.size)->
   u .normal (((a.put (some (e+7)) (.slice h s j)).put (some (e+8)) (.pointer (some ⟨c,0,none⟩))).put (some (e+9)) (.pointer (some ⟨c,l,none⟩))) (f.setCell ⟨c,l,none⟩ (.slice h s j))):
  wpAny Tryz.prog F t u 4 B a d:=by
 refine eJ b.e7 b.g7 k.r7 (fun I y=>?_);refine dQ (.tmp (e+4)) (.tmp (e+6)) 92 b.p7 0 103 _ 18 32 Tryz.underlying92 Tryz.infoCommit rfl (by decide) o.val n w K R ⟨x,0,none⟩ 1 1 p L (by rw[M]) O N (by unfold maxLen;omega) (by omega) (nN _) ?_;intro aa f E D P;obtain⟨h,j,rfl,_⟩:=Nj E;refine y _ _ ?_;rw[b.d7];have z:∀(q:Option Nat) (g:Value) (a:Act),(a.put q g).tmps.size=a.tmps.size:=fun q g a=>Act.size_put a q g;refine wpAny_take (i:=8) (v:=.pointer (some ⟨c,0,none⟩)) b.e8 b.sel k.f8 k.r8 (fun m a d r=>C _ _ m a d r) (a6 _ ?_) ?_
 .rw[Act.eval_put_ne _ _ _ _ (by omega)];exact J
 rw[b.d8];refine wpAny_take (i:=9) (v:=.pointer (some ⟨c,l,none⟩)) b.e9 b.sel k.f9 k.r9 (fun m a d r=>C _ _ m a d r) (a7 _ ?_) ?_
 .exact Act.eval_put_same _ _ _ (by rw[z];omega)
 rw[b.d9];refine eJ b.e10 b.g10 k.r10 (fun I y=>?_);obtain⟨g,S,T⟩:=Q f D;refine nG _ _ b.p10 c l g h (n+1) j ?_ ?_ S T ?_
 .exact Act.eval_put_same _ _ _ (by rw[z,z];omega)
 .rw[Act.eval_put_ne _ _ _ _ (by omega),Act.eval_put_ne _ _ _ _ (by omega)];exact Act.eval_put_same _ _ _ (by omega)
 refine y _ _ ?_;rw[b.d10];exact wpAny_done k.rd (r h (n+1) j f E D P) _
structure ZL(md:Region.Mode)(ops:Array Oper)(L:Array Bool):Prop where
 f0:Region.free md ops L 0=true
 r0:(Region.ready md ops L).contains 0=true
 f1:Region.free md ops (L.setIfInBounds 0 true) 1=true
 r1:(Region.ready md ops (L.setIfInBounds 0 true)).contains 1=true
 f2:Region.free md ops ((L.setIfInBounds 0 true).setIfInBounds 1 true) 2=true
 r2:(Region.ready md ops ((L.setIfInBounds 0 true).setIfInBounds 1 true)).contains 2=true
 f3:Region.free md ops (((L.setIfInBounds 0 true).setIfInBounds 1 true).setIfInBounds 2 true) 3=true
 r3:(Region.ready md ops (((L.setIfInBounds 0 true).setIfInBounds 1 true).setIfInBounds 2 true)).contains 3=true
 r45:Region.ready md ops ((((L.setIfInBounds 0 true).setIfInBounds 1 true).setIfInBounds 2 true).setIfInBounds 3 true)=[4,5]
 ra5:Region.ready md ops (((((L.setIfInBounds 0 true).setIfInBounds 1 true).setIfInBounds 2 true).setIfInBounds 3 true).setIfInBounds 4 true)=[5]
 ra6:Region.ready md ops ((((((L.setIfInBounds 0 true).setIfInBounds 1 true).setIfInBounds 2 true).setIfInBounds 3 true).setIfInBounds 4 true).setIfInBounds 5 true)=[6]
 ta:SX md ops (((((((L.setIfInBounds 0 true).setIfInBounds 1 true).setIfInBounds 2 true).setIfInBounds 3 true).setIfInBounds 4 true).setIfInBounds 5 true).setIfInBounds 6 true)
 rb46:Region.ready md ops (((((L.setIfInBounds 0 true).setIfInBounds 1 true).setIfInBounds 2 true).setIfInBounds 3 true).setIfInBounds 5 true)=[4,6]
 rb6:Region.ready md ops ((((((L.setIfInBounds 0 true).setIfInBounds 1 true).setIfInBounds 2 true).setIfInBounds 3 true).setIfInBounds 5 true).setIfInBounds 4 true)=[6]
 tb:SX md ops (((((((L.setIfInBounds 0 true).setIfInBounds 1 true).setIfInBounds 2 true).setIfInBounds 3 true).setIfInBounds 5 true).setIfInBounds 4 true).setIfInBounds 6 true)
 rc4:Region.ready md ops ((((((L.setIfInBounds 0 true).setIfInBounds 1 true).setIfInBounds 2 true).setIfInBounds 3 true).setIfInBounds 5 true).setIfInBounds 6 true)=[4]
 tc:SX md ops (((((((L.setIfInBounds 0 true).setIfInBounds 1 true).setIfInBounds 2 true).setIfInBounds 3 true).setIfInBounds 5 true).setIfInBounds 6 true).setIfInBounds 4 true)
theorem WH{a0:Region.Mode}{n:Array Oper}{H:Exit->Act->World->Prop}{D p q:Nat}{a1 a2 a3 a4 af ag ah ai a5 a6 ae:Oper}(a:jU n D p q a1 a2 a3 a4 af ag ah ai a5 a6 ae){T:Array Bool}(h:ZL a0 n T)
  (s:∀B u m b d,H (.panic m) (b.put B u) d->H (.panic m) b d)(c g:Nat)(k:dj)(E:Nat)(f:List Value)(r:f.length=18)(I:∀ak∈f,ak.oneCell'=true)(x:Nat)(C:List Value)(M:x<=1000)
  (al:∀b:Act,b.eval (.tmp p)=.pointer (some ⟨c,0,none⟩)->Yields Tryz.prog n a1 (.pointer (some ⟨c,0,none⟩)) b)(am:∀b:Act,b.eval (.tmp p)=.pointer (some ⟨c,0,none⟩)->Yields Tryz.prog n a2 (.pointer (some ⟨c,0,none⟩)) b)
  (an:∀b:Act,b.eval (.tmp (D+1))=.pointer (some ⟨c,0,none⟩)->Yields Tryz.prog n a3 (.pointer (some ⟨c,0,none⟩)) b)(ao:∀b:Act,b.eval (.tmp (D+2))=.pointer (some ⟨c,0,none⟩)->Yields Tryz.prog n a4 (.pointer (some ⟨c,g,none⟩)) b)
  (Q:∀b:Act,b.eval (.tmp D)=.pointer (some ⟨c,0,none⟩)->Yields Tryz.prog n a5 (.pointer (some ⟨c,0,none⟩)) b)(R:∀b:Act,b.eval (.tmp (D+8))=.pointer (some ⟨c,0,none⟩)->Yields Tryz.prog n a6 (.pointer (some ⟨c,g,none⟩)) b)
  (b:Act)(d:World)(au:D+10<b.tmps.size)(ap:p<D)(ar:q<D)(Z:b.eval (.tmp p)=.pointer (some ⟨c,0,none⟩))(ad:b.eval (.tmp q)=.pointer (some ⟨E,0,none⟩))
  (W:aj d E 103 f)(L:d.cell? ⟨c,g,none⟩=some k.val)(aa:c<d.heap.size)(ac:d.ownsRow 0 103 18 k.val x C)
  (K:∀w,bj (fun G=>k.val.ownBlock=some G) (d.alloc (.cells f.toArray 103)) w->∃u,w.cell? ⟨c,g,none⟩=some u/\w.frozen? ⟨c,g,none⟩=false)
  (l:∀(z:Option Addr) (F A:Nat) (w:World),w.ownsRow 0 103 18 (.slice z F A) (x+1) (C++f)->bj (fun G=>k.val.ownBlock=some G) (d.alloc (.cells f.toArray 103)) w->((Value.slice z F A).ownBlock=k.val.ownBlock\/(Value.slice z F A).ownBlock=some (d.alloc (.cells f.toArray 103)).heap.size)->
   H .normal (VH b D (.pointer (some ⟨c,0,none⟩)) (.pointer (some ⟨c,g,none⟩)) k.val (.agg f.toArray) (.slice (some ⟨d.heap.size,0,none⟩) 1 1) (.slice z F A)) (w.setCell ⟨c,g,none⟩ (.slice z F A))):
  wpAny Tryz.prog a0 n H 11 T b d:=by
 have e:∀(B:Option Nat) (u:Value) (b:Act),(b.put B u).tmps.size=b.tmps.size:=fun B u b=>Act.size_put b B u;have Y:(Tryz.prog.info? 103).map (·.size)=some f.length:=by rw[r];exact Tryz.sizeCommit
 have V:Below d.heap.size d (d.alloc (.cells f.toArray 103)):=tO;have ab:(d.alloc (.cells f.toArray 103)).cell? ⟨c,g,none⟩=some k.val:=by rw[V.cell (p:=⟨c,g,none⟩) aa];exact L
 have N:=lj ac V;have J:jj (d.alloc (.cells f.toArray 103)) (some ⟨d.heap.size,0,none⟩) f:=jj.alloc_new d _ _;refine wpAny_take (i:=0) (v:=.pointer (some ⟨c,0,none⟩)) a.e0 a.sel h.f0 h.r0 (fun m b d l=>s _ _ m b d l) (al _ Z) ?_;rw[a.d0];refine wpAny_take (i:=1) (v:=.pointer (some ⟨c,0,none⟩)) a.e1 a.sel h.f1 h.r1 (fun m b d l=>s _ _ m b d l) (am _ (by rw[Act.eval_put_ne _ _ _ _ (by omega)];exact Z)) ?_;rw[a.d1];refine wpAny_take (i:=2) (v:=.pointer (some ⟨c,0,none⟩)) a.e2 a.sel h.f2 h.r2 (fun m b d l=>s _ _ m b d l) (an _ (Act.eval_put_same _ _ _ (by rw[e];omega))) ?_;rw[a.d2];refine wpAny_take (i:=3) (v:=.pointer (some ⟨c,g,none⟩)) a.e3 a.sel h.f3 h.r3 (fun m b d l=>s _ _ m b d l) (ao _ (Act.eval_put_same _ _ _ (by rw[e,e];omega))) ?_;rw[a.d3];obtain⟨y,t⟩:∃G,G=(((b.put (some D) (.pointer (some ⟨c,0,none⟩))).put (some (D+1)) (.pointer (some ⟨c,0,none⟩))).put (some (D+2)) (.pointer (some ⟨c,0,none⟩))).put (some (D+3)) (.pointer (some ⟨c,g,none⟩)):=⟨_,rfl⟩;have av:y.tmps.size=b.tmps.size:=by rw[t,e,e,e,e]
 have O:y.eval (.tmp D)=.pointer (some ⟨c,0,none⟩):=by
  rw[t,Act.eval_put_ne _ _ _ _ (by omega),Act.eval_put_ne _ _ _ _ (by omega),Act.eval_put_ne _ _ _ _ (by omega)];exact Act.eval_put_same _ _ _ (by omega)
 have P:y.eval (.tmp (D+3))=.pointer (some ⟨c,g,none⟩):=by
  rw[t];exact Act.eval_put_same _ _ _ (by rw[e,e,e];omega)
 have a9:y.eval (.tmp q)=.pointer (some ⟨E,0,none⟩):=by
  rw[t,Act.eval_put_ne _ _ _ _ (by omega),Act.eval_put_ne _ _ _ _ (by omega),Act.eval_put_ne _ _ _ _ (by omega),Act.eval_put_ne _ _ _ _ (by omega)];exact ad
 have X:∀a7 S U a8,VH b D (.pointer (some ⟨c,0,none⟩)) (.pointer (some ⟨c,g,none⟩)) a7 S U a8=(((((y.put (some (D+4)) a7).put (some (D+5)) S).put (some (D+6)) U).put (some (D+7)) a8).put (some (D+8)) (.pointer (some ⟨c,0,none⟩))).put (some (D+9)) (.pointer (some ⟨c,g,none⟩)):=fun _ _ _ _=>by rw[t];rfl
 simp only[X]at l;rw[<-t];clear t X;refine iU a.e4 a.g4 a.e5 a.g5 h.r45 (fun o j=>?_) (fun o j=>?_)
 .refine cX _ a.p4 c g k.val P L (j _ _ ?_);rw[a.d4];refine eJ a.e5 a.g5 h.ra5 (fun o j=>?_);refine wp_load_mid _ _ a.p5 E 0 (by rw[Act.eval_put_ne _ _ _ _ (by omega)];exact a9) f _ W.range Tryz.underlying103 rfl Y (j _ _ ?_);rw[a.d5];refine eJ a.e6 a.g6 h.ra6 (fun o j=>?_);refine YQ _ 103 _ a.p6 f (Act.eval_put_same _ _ _ (by rw[e];omega)) (UH f r) (j _ _ ?_);rw[a.d6];refine ZQ a h.ta s c g k d.heap.size f r I x C M Q R _ _ (by rw[e,e,e];omega) ?_ ?_ ?_ N J K l
  .rw[Act.eval_put_ne _ _ _ _ (by omega),Act.eval_put_ne _ _ _ _ (by omega),Act.eval_put_ne _ _ _ _ (by omega)];exact O
  .rw[Act.eval_put_ne _ _ _ _ (by omega),Act.eval_put_ne _ _ _ _ (by omega)];exact Act.eval_put_same _ _ _ (by omega)
  .exact Act.eval_put_same _ _ _ (by rw[e,e];omega)
 .refine wp_load_mid _ _ a.p5 E 0 a9 f _ W.range Tryz.underlying103 rfl Y (j _ _ ?_);rw[a.d5];refine iU a.e4 a.g4 a.e6 a.g6 h.rb46 (fun o j=>?_) (fun o j=>?_)
  .refine cX _ a.p4 c g k.val (by rw[Act.eval_put_ne _ _ _ _ (by omega)];exact P) L (j _ _ ?_);rw[a.d4,dX _ _ _ _ _ (by omega)];refine eJ a.e6 a.g6 h.rb6 (fun o j=>?_);refine YQ _ 103 _ a.p6 f (Act.eval_put_same _ _ _ (by rw[e];omega)) (UH f r) (j _ _ ?_);rw[a.d6];refine ZQ a h.tb s c g k d.heap.size f r I x C M Q R _ _ (by rw[e,e,e];omega) ?_ ?_ ?_ N J K l
   .rw[Act.eval_put_ne _ _ _ _ (by omega),Act.eval_put_ne _ _ _ _ (by omega),Act.eval_put_ne _ _ _ _ (by omega)];exact O
   .rw[Act.eval_put_ne _ _ _ _ (by omega),Act.eval_put_ne _ _ _ _ (by omega)];exact Act.eval_put_same _ _ _ (by omega)
   .exact Act.eval_put_same _ _ _ (by rw[e,e];omega)
  .refine YQ _ 103 _ a.p6 f (Act.eval_put_same _ _ _ (by omega)) (UH f r) (j _ _ ?_);rw[a.d6];refine eJ a.e4 a.g4 h.rc4 (fun o j=>?_);refine cX _ a.p4 c g k.val (by rw[Act.eval_put_ne _ _ _ _ (by omega),Act.eval_put_ne _ _ _ _ (by omega)];exact P) ab (j _ _ ?_);rw[a.d4,dX _ (D+6) (D+4) _ _ (by omega),dX _ (D+5) (D+4) _ _ (by omega)];refine ZQ a h.tc s c g k d.heap.size f r I x C M Q R _ _ (by rw[e,e,e];omega) ?_ ?_ ?_ N J K l
   .rw[Act.eval_put_ne _ _ _ _ (by omega),Act.eval_put_ne _ _ _ _ (by omega),Act.eval_put_ne _ _ _ _ (by omega)];exact O
   .rw[Act.eval_put_ne _ _ _ _ (by omega),Act.eval_put_ne _ _ _ _ (by omega)];exact Act.eval_put_same _ _ _ (by omega)
   .exact Act.eval_put_same _ _ _ (by rw[e,e];omega)
end Go.Proofs.YtekegfbjbainhaaGreat
