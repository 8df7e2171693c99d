import Derived.Test.YtekegfbjbainhaaGreatKJoin10
set_option maxRecDepth 100000
set_option maxHeartbeats 8000000
set_option linter.unusedVariables false
set_option linter.unusedSimpArgs false
namespace Go.Proofs.YtekegfbjbainhaaGreat
open Go.RowKit
section
def sj(a:Nd):List UInt8:=Aj (Gj a.level a.its)
def JU(a:Nat)(b:List UInt8):List Value:=.int .i64 a::b.map fj
def z9:List Value:=[.int .i64 0,.int .u8 0,.int .u8 0,.int .u8 0,.int .u8 0,.int .u8 0,.int .u8 0,.int .u8 0,.int .u8 0]
theorem Tryz.sizeHead:(Tryz.prog.info? 98).map (·.size)=some 9:=by kernel_rfl
theorem kG(d:List (List UInt8)):∀a∈qj d,a.oneCell'=true:=fun a c=>by
 obtain⟨e,_,b⟩:=Eaj.1 c;obtain⟨f,_,rfl⟩:=vN.1 b;rfl
theorem Ew(c:Nat)(a:dj)(b:World)(f:b.cell? ⟨c,2,none⟩=some (.slice a.a a.n a.cap))(g:a.n<=40):
  CP 94 #[.pointer (some ⟨c,0,none⟩)] b fun d e=>d=.returned (.int .i64 (a.n:Int))/\e=b:=by
 have h:(a.n:Int)<=40:=by omega
 go_enter Tryz.func94,Tryz.ntmps94;go_wp2;go_ret;exact⟨rfl,rfl⟩
theorem WQ(x g:Nat)(e:dj)(b:List Nd)(c:World)(z:c.cell? ⟨x,2,none⟩=some e.val)(O:jj c e.a (b.map (fun an=>Cj an.b)))(L:e.n=b.length)(a5:b.length<=40)(M:∀d∈b,uq c d)(aa:g<=b.length):
  CP 96 #[.pointer (some ⟨x,0,none⟩),.int .i64 g] c fun a2 Q=>∃f:dj,a2=.returned f.val/\Q.ownsRow c.heap.size 36 8 f.val g (qj ((b.take g).map sj))/\Below c.heap.size c Q:=by
 have U:Hd (∀(wr:World),BB c wr->∀a (u:a<b.length),∃s t,e.a=some ⟨s,t,none⟩/\wr.cell? ⟨s,t+a,none⟩=some (.pointer (some ⟨b[a].b,0,none⟩))/\uq wr b[a]):=fun wr v a u=>by
  obtain⟨s,t,a7,a8,J⟩:=O a (by simpa using u);refine⟨s,t,a7,?_,(M _ (bN u)).below v⟩;rw[v.cell (p:=⟨s,t+a,none⟩) a8,J];simp[Cj]
 have W:Hd (∀(wr:World),BB c wr->wr.cell? ⟨x,2,none⟩=some (.slice e.a e.n e.cap)):=fun wr v=>by
  have A:=World.block_lt_of_cell? _ _ z;rw[v.cell (p:=⟨x,2,none⟩) A];exact z
 have y:Hd (e.n=b.length):=L;have ae:(e.n:Int)<=40:=by omega
 have a6:e.n<=40:=by omega
 have af:g<=e.n:=by omega
 have aD:(g:Int)<=40:=by omega
 clear O L M a5 z aa;go_enter Tryz.func96,Tryz.ntmps96;go_wp2
 go_loopw [5,6,8] (fun al _ E wr=>∃(a:Nat) (f:dj),a<=g/\E=.int .i64 a/\al=f.val/\Hd (wr.ownsRow c.heap.size 36 8 f.val ((b.take a).map sj).length (qj ((b.take a).map sj))/\Below c.heap.size c wr)) (fun _ _ E _=>g - (intOf E).toNat)
 case atStart=>exact⟨0,⟨none,0,0⟩,by omega,by simp,rfl,iN _ _ _ _,VM _ _⟩
 case round=>
  obtain⟨a,f,u,rfl,rfl,r⟩:=hrel;by_cases A:a<g
  .have ab:(a:Int)<g:=by omega
   have ac:a<e.n:=by omega
   have ad:(a:Int)<e.n:=by omega
   have K:a<b.length:=by have:=y.o;omega
   have ah:=W.o wr r.o.2;obtain⟨s,t,P,J,N⟩:=U.o wr r.o.2 a K;have Z:Hd ((b.take (a+1)).map sj=(b.take a).map sj++[sj b[a]]):=by unfold Hd;rw[RN K,rN];rfl
   obtain⟨aE,aO,aI⟩:=e;simp only at P ab A u ae a6 y ah ac ad af;subst P;generalize b[a]=d at*;obtain⟨h,i,j,k,l,m,n,o,D⟩:=uj (Aj (Gj d.level d.its)) rfl;have q:=N.row;rw[Hk d D]at q;have ao:wr.cell? ⟨d.b,2,none⟩=some (.int .u8 h.toNat):=q.cell 2 (by simp);have ap:wr.cell? ⟨d.b,3,none⟩=some (.int .u8 i.toNat):=q.cell 3 (by simp);have ar:wr.cell? ⟨d.b,4,none⟩=some (.int .u8 j.toNat):=q.cell 4 (by simp);have au:wr.cell? ⟨d.b,5,none⟩=some (.int .u8 k.toNat):=q.cell 5 (by simp);have av:wr.cell? ⟨d.b,6,none⟩=some (.int .u8 l.toNat):=q.cell 6 (by simp);have ax:wr.cell? ⟨d.b,7,none⟩=some (.int .u8 m.toNat):=q.cell 7 (by simp);have aA:wr.cell? ⟨d.b,8,none⟩=some (.int .u8 n.toNat):=q.cell 8 (by simp);have aB:wr.cell? ⟨d.b,9,none⟩=some (.int .u8 o.toNat):=q.cell 9 (by simp);have V:Hd ([h,i,j,k,l,m,n,o]=sj d):=D.symm;have G:Hd (((b.take a).map sj).length<=40):=by unfold Hd;rw[FN,aN];omega
   have H:Hd ((wr.alloc (.cells (cO h i j k l m n o) 36)).ownsRow c.heap.size 36 8 (.slice f.a f.n f.cap) ((b.take a).map sj).length (qj ((b.take a).map sj))):=r.o.1.alloc _;have X:Hd (jj (wr.alloc (.cells (cO h i j k l m n o) 36)) (some ⟨wr.heap.size,0,none⟩) [.int .u8 h.toNat,.int .u8 i.toNat,.int .u8 j.toNat,.int .u8 k.toNat,.int .u8 l.toNat,.int .u8 m.toNat,.int .u8 n.toNat,.int .u8 o.toNat]):=jj.alloc_new wr _ _;have R:Hd (∀am∈([.int .u8 h.toNat,.int .u8 i.toNat,.int .u8 j.toNat,.int .u8 k.toNat,.int .u8 l.toNat,.int .u8 m.toNat,.int .u8 n.toNat,.int .u8 o.toNat]:List Value),am.oneCell'=true):=kG [[h,i,j,k,l,m,n,o]];have F:Hd (BB c (wr.alloc (.cells (cO h i j k l m n o) 36))):=r.o.2.alloc r.o.2.size _;have Y:Hd (c.heap.size<=(wr.alloc (.cells (cO h i j k l m n o) 36)).heap.size):=by have:=r.o.2.size;unfold Hd;simp;omega
   clear q N D;unfold dj.val;go_wp2_with (at_builtin;refine rq (by rfl) (.tmp 11) (.tmp 22) 41 (by rfl) c.heap.size 36 _ 8 8 Tryz.underlying41 Tryz.infoDigs rfl (by decide) (.slice f.a f.n f.cap) ((b.take a).map sj).length (qj ((b.take a).map sj)) (by rfl) H.o (some ⟨wr.heap.size,0,none⟩) 1 1 [.int .u8 h.toNat,.int .u8 i.toNat,.int .u8 j.toNat,.int .u8 k.toNat,.int .u8 l.toNat,.int .u8 m.toNat,.int .u8 n.toNat,.int .u8 o.toNat] (by rfl) rfl X.o (fun a4=>by cases a4) R.o (by have:=G.o;unfold maxLen;omega) (by have:=G.o;omega) Y.o ?_;intro aP aR C a9 aC;obtain⟨a0,a1,ai,_⟩:=Nj C;subst ai;obtain⟨w,B⟩:∃w,w=((b.take a).map sj).length+1:=⟨_,rfl⟩;rw[<-B]at C⊢;have T:Hd (w=((b.take a).map sj).length+1):=B;clear B);refine⟨⟨a+1,⟨a0,w,a1⟩,by omega,by go_num,rfl,?_,?_⟩,by simp[intOf];omega⟩
   .rw[Z.o,XM];have a3:qj ((b.take a).map sj++[sj d])=qj ((b.take a).map sj)++[.int .u8 h.toNat,.int .u8 i.toNat,.int .u8 j.toNat,.int .u8 k.toNat,.int .u8 l.toNat,.int .u8 m.toNat,.int .u8 n.toNat,.int .u8 o.toNat]:=by
     rw[<-V.o];simp[qj,fj]
    rw[a3,VN,<-T.o];exact C
   .exact F.o.trans (a9.below F.o.size (fun ak ag=>by have:=(H.o.lt ak ag).1;omega))
  .obtain rfl:a=g:=by omega
   have S:Hd (((b.take a).map sj).length=a):=by unfold Hd;have:=y.o;simp;omega
   go_wp2;go_ret;have I:=r.o.1;rw[S.o]at I;exact⟨f,rfl,I,r.o.2⟩
theorem PH(f:Nat)(d:dj)(c:List Nd)(b:World)(B:b.cell? ⟨f,2,none⟩=some d.val)(Q:jj b d.a (c.map (fun a9=>Cj a9.b)))(l:d.n=c.length)(D:c.length<=40)(P:∀m∈c,uq b m):
  CP 83 #[.pointer (some ⟨f,0,none⟩)] b fun j a7=>j=.returned (.agg (JU c.length (Uj 42 (c.map sj))).toArray)/\Below b.heap.size b a7:=by
 have h:Below b.heap.size b (b.alloc (.cells z9.toArray 98)):=tO;have i:Hd (aj (b.alloc (.cells z9.toArray 98)) b.heap.size 98 z9):=aj.new b _ _;have C:(b.alloc (.cells z9.toArray 98)).cell? ⟨f,2,none⟩=some d.val:=by
  have a2:=World.block_lt_of_cell? _ _ B;rw[h.cell (p:=⟨f,2,none⟩) a2];exact B
 have z:Hd (Calls _ _ _ _ _):=Ew f d _ C (by omega);have g:Hd (Calls _ _ _ _ _):=WQ f c.length d c _ C (jj.below_all Q h) l D (fun m a6=>(P m a6).below h) (TM _);have y:Hd (BB b (b.alloc (.cells z9.toArray 98))):=h;rw[aaj (TM _)]at g;have L:Hd (d.n=c.length):=l;have J:Hd (c.length<=40):=D;rw[<-l]at g;clear Q l P D B C h;unfold z9 at z g i y;go_enter Tryz.func83,Tryz.ntmps83;go_wp2_with fail;refine z.o.mono ?_;rintro j af ⟨rfl,a5⟩;subst a5;go_wp2_with fail;refine g.o.mono ?_;rintro j x ⟨e,rfl,F,E⟩;obtain⟨H,V,U,_⟩:=vj (a:=e.a) (n':=e.n) (cap:=e.cap) F;have R:tq x e.a (c.map sj):=⟨(jj.ofOwn (s:=e) F).1,fun aa a0=>by obtain⟨m,_,rfl⟩:=vN.1 a0;rfl⟩;have I:e.n=(c.map sj).length:=by rw[H,L.o];simp
 have M:Hd (Calls _ _ _ _ _):=dy 42 (c.map sj) e.a e.cap x (by simp;have:=J.o;omega) (by simp;have:=J.o;omega) (by rw[<-I,H];exact V) (by unfold maxLen at U;omega) R;rw[<-I]at M;obtain⟨n,o,q,r,t,u,v,w,S⟩:=uj (Uj 42 (c.map sj)) (Wj 41 _);have Y:Hd (dV (Uj 42 (c.map sj))=.agg (cO n o q r t u v w)):=by unfold Hd;rw[S];rfl
 have W:Hd (JU c.length (Uj 42 (c.map sj))=[.int .i64 (d.n:Int),.int .u8 n.toNat,.int .u8 o.toNat,.int .u8 q.toNat,.int .u8 r.toNat,.int .u8 t.toNat,.int .u8 u.toNat,.int .u8 v.toNat,.int .u8 w.toNat]):=by unfold Hd;rw[S,L.o];rfl
 have G:=aj.below i.o i.o.lt E;have X:Hd (∀A,BB x A->aj A b.heap.size 98 z9):=fun A Z=>aj.below G G.lt Z;have K:Hd (BB b x):=y.o.trans (E.mono (by simp));clear H V U R I G F E g z i y;unfold dj.val;go_wp2_with (first
  |(go_at_call 119;refine M.o.mono ?_;rintro j a8 ⟨rfl,O⟩;rw[Y.o];have a3:=X.o a8 O)
  |(refine xv (by rfl) 98 (.tmp 2) (.tmp 11) (by rfl) b.heap.size (by rfl) [.int .i64 (d.n:Int),.int .u8 n.toNat,.int .u8 o.toNat,.int .u8 q.toNat,.int .u8 r.toNat,.int .u8 t.toNat,.int .u8 u.toNat,.int .u8 v.toNat,.int .u8 w.toNat] (by rfl) a3 rfl Tryz.sizeHead (fun ae T=>by simp only[IN,jaj,or_false]at T;rcases T with rfl|rfl|rfl|rfl|rfl|rfl|rfl|rfl|rfl<;>rfl) ?_;intro ag a4 a1 ac))
 rw[W.o];refine Cv (k:=2) (cs:=[.int .i64 (d.n:Int),.int .u8 n.toNat,.int .u8 o.toNat,.int .u8 q.toNat,.int .u8 r.toNat,.int .u8 t.toNat,.int .u8 u.toNat,.int .u8 v.toNat,.int .u8 w.toNat]) rfl rfl a4 Tryz.underlying98 rfl Tryz.sizeHead rfl ⟨rfl,?_⟩;have N:=K.o.trans (O.mono K.o.size);exact N.trans (a1.below N.size (fun ad ab=>by omega))
structure Az(w:World)(sb N:Nat)(en tr:dj)(mp:Option Nat)(es:List Tj)(xs:List Pj)(its:List ej)(tds:List Nd):Prop where
 row:qq w sb en mp tr
 known:Oj w sb mp es N
 ent:Iz w en xs its
 entf:∀k,tx en xs k->¬Bj sb mp es k
 own:w.ownsRow 0 138 1 tr.val tds.length (tds.map (fun x=>Cj x.b))
 trf:∀k,tr.val.ownBlock=some k->¬Bj sb mp es k
 nds:∀nd∈tds,uq w nd/\(∀k,Sq nd k->¬Bj sb mp es k)
 rise:qx its
 ok:∀x∈its,Dq x
 norm:∀x∈its,x.below=0
 len:its.length<=60
def Ux(f:Nat)(c h:dj)(d:Option Nat)(b:List Tj)(i:List Pj)(g:List Nd)(a:Nat):Prop:=Bj f d b a\/tx c i a\/Iv b a\/h.val.ownBlock=some a\/∃e∈g,Sq e a
theorem Iz.lt{j:World}{h:dj}{k:List Pj}{l:List ej}(a:Iz j h k l):∀b,tx h k b->b<j.heap.size:=fun b d=>by
 have m:=a.len;rcases d with d|⟨n,i,⟨g,e,rfl⟩|⟨g,e,rfl⟩⟩
 .exact(a.own.lt b d).2
 .obtain⟨f,c,rfl⟩:=PN i;exact(a.ok f c (by omega)).key.lt g e
 .obtain⟨f,c,rfl⟩:=PN i;exact(a.ok f c (by omega)).val.lt g e
theorem Az.lt{j:World}{g l:Nat}{d i:dj}{f:Option Nat}{e:List Tj}{k:List Pj}{n:List ej}{h:List Nd}(c:Az j g l d i f e k n h):∀b,Ux g d i f e k h b->b<j.heap.size:=fun b a=>by
 rcases a with a|a|a|a|⟨o,m,a⟩
 .exact Bj.lt c.known (aj.lt c.row) b a
 .exact c.ent.lt b a
 .exact Iv.lt c.known b a
 .exact(c.own.lt b a).2
 .exact(c.nds o m).1.lt b a
theorem Az.frame{r p:World}{S:Nat->Prop}{k o:Nat}{f m:dj}{i:Option Nat}{g:List Tj}{n:List Pj}{q:List ej}{l:List Nd}(a:Az r k o f m i g n q l)(e:bj S r p)(d:∀b,Ux k f m i g n l b->¬S b):Az p k o f m i g n q l:=
 ⟨aj.of_block a.row (e.block _ (aj.lt a.row) (d _ (SM (SM rfl)))),a.known.frameS e (fun b c=>d b (SM c)) (fun b c=>d b (RM (RM (SM c)))),a.ent.frame e (fun b c=>d b (RM (SM c))),a.entf,ij a.own e (fun b c=>d b (RM (RM (RM (SM c))))),a.trf,fun j h=>⟨(a.nds j h).1.frame e (fun b c=>d b (RM (RM (RM (RM ⟨j,h,c⟩))))),(a.nds j h).2⟩,a.rise,a.ok,a.norm,a.len⟩
theorem Az.below{w b:World}{g a:Nat}{c i:dj}{f:Option Nat}{d:List Tj}{j:List Pj}{e:List ej}{h:List Nd}(l:Az w g a c i f d j e h)(m:Below w.heap.size w b):Az b g a c i f d j e h:=l.frame (bj.of_below_all (S:=fun _=>False) m) (fun _ _ k=>k)
theorem EZ{o:Array Oper}{d:Oper}{b:Act}{g:World}{k:Act->World->Prop}{q:Exit->Act->World->Prop}{p:Prop}(t:d.guard=none)(e:TypeId)(i j:Operand)(v:d.op=.store e i j)
  (c:Nat)(x:b.eval i=.pointer (some ⟨c,0,none⟩))(a:List Value)(y:b.eval j=.agg a.toArray){n:List Value}(l:aj g c e n)(m:n.length=a.length)(u:(Tryz.prog.info? e).map (·.size)=some a.length)(s:∀z∈a,z.oneCell'=true)
  (r:∀h,aj h c e a->bj (fun f=>f=c) g h->k (b.put d.dst undef) h):if Region.wanted d (yielded o b.tmps)=true then Oper.wp Tryz.prog d b g k q else p:=by
 have w:Region.wanted d (yielded o b.tmps)=true:=by simp[Region.wanted,t]
 rw[if_pos w];refine wp_store_mid e i j v c 0 a.toArray x y (by simpa using l.there a.length m.symm) (by simpa using u) (all_oneCell_toArray s) ?_;exact r _ (l.setAll _ m.symm) (bj.setCells (S:=fun f=>f=c) rfl _ _ _ (bj.refl _ _))
theorem mQ:∀a∈Mq,a.oneCell'=true:=by decide
def BV(b a:Nat)(k l m n o p q r c d e f g h i j:UInt8):List Value:=[(.int .i64 b),(.int .u8 k.toNat),(.int .u8 l.toNat),(.int .u8 m.toNat),(.int .u8 n.toNat),(.int .u8 o.toNat),(.int .u8 p.toNat),(.int .u8 q.toNat),(.int .u8 r.toNat),(.int .i64 a),(.int .u8 c.toNat),(.int .u8 d.toNat),(.int .u8 e.toNat),(.int .u8 f.toNat),(.int .u8 g.toNat),(.int .u8 h.toNat),(.int .u8 i.toNat),(.int .u8 j.toNat)]
theorem RY{d c:Nat}{m n o p q r s t e f g h i j k l:UInt8}:∀b∈BV d c m n o p q r s t e f g h i j k l,b.oneCell'=true:=by
 intro b a;simp only[BV,IN,jaj,or_false]at a;rcases a with rfl|rfl|rfl|rfl|rfl|rfl|rfl|rfl|rfl|rfl|rfl|rfl|rfl|rfl|rfl|rfl|rfl|rfl<;>rfl
theorem mW(c i:Nat)(m b:dj)(u:Option Nat)(n:List Tj)(w:List Pj)(t:List ej)(g:List Nd)(a:World)(d:Az a c i m b u n w t g)(o:g.length=40):
  CP 44 #[.pointer (some ⟨c,0,none⟩)] a fun l v=>l=.returned (.tuple #[.agg Mq.toArray,.int .i64 2])/\Below a.heap.size a v:=by
 have s:=aj.lt d.row;have f:b.n=40:=by rw[<-o];exact(jj.ofOwn d.own).2
 have j:a.cell? ⟨c,2,none⟩=some (.slice b.a 40 b.cap):=by rw[<-f];exact aj.cell d.row 2 (by simp)
 have x:(a.alloc (.cells kO 103)).cell? ⟨c,2,none⟩=some (.slice b.a 40 b.cap):=by rw[((VM a.heap.size a).alloc (TM _) _).cell (p:=⟨c,2,none⟩) s];exact j
 have h:Hd (aj (a.alloc (.cells kO 103)) a.heap.size 103 Mq):=aj.new a _ _;clear d f;go_enter Tryz.func44,Tryz.ntmps44;go_wp2_with (refine xv (by rfl) 103 (.tmp 2) (.tmp 16) (by rfl) a.heap.size (by rfl) Mq (by rfl) h.o rfl Tryz.sizeCommit mQ ?_;intro B r q z);refine Lq (k:=2) (k2:=3) (cs:=Mq) rfl rfl rfl r Tryz.underlying103 rfl Tryz.sizeCommit rfl ⟨rfl,?_⟩;have e:Below a.heap.size a (a.alloc (.cells kO 103)):=tO;exact e.trans (q.below e.size (fun A y=>by omega))
theorem Oj.frameSb{o j:World}{f i:Nat}{e:Option Nat}{k:List Tj}(a:Oj o f e k i)(g:bj (fun d=>d=f) o j)(w:e≠some f):Oj j f e k i:=by
 refine⟨?_,a.d8,fun b c=>ij (a.own b c) g (fun d h=>(a.msb b c d h).1),fun b c p n=>(a.nodes b c p n).frame g (fun d h s=>a.foot b c p n d h (SM s)),a.apart,a.foot,a.msb,a.cnt,a.kd⟩;have l:=a.map;cases e with
 |none=>exact l
 |some x=>
  obtain⟨q,r,m,t,u,v⟩:=l;exact⟨q,r,by rw[g.block x (SN.1 m).1 (fun b=>w (by rw[b]))];exact m,t,u,v⟩
theorem Az.mp_ne{c:World}{a f:Nat}{h l:dj}{b:Option Nat}{i:List Tj}(j:qq c a h b l)(e:Oj c a b i f):b≠some a:=fun g=>by
 subst g;obtain⟨m,n,k,_⟩:=e.map;have d:c.heap[a]? =_:=j;rw[k]at d;cases d
theorem KU{z o A i:World}{c O F:Nat}{j q k R:dj}{h t:Option Nat}{f w:List Tj}{n:List Pj}{M:List ej}{l:List Nd}{u:Nd}(g:Az o c O j q h f n M l)(I:Below z.heap.size z o)(V:∀a,Ux c j q h f n l a->a<z.heap.size)
  (e:Jz o c j q h f (Nv n) A F t w R [u])(r:Below A.heap.size A i)(y:i.ownsRow A.heap.size 138 1 k.val (l.length+1) (l.map (fun m=>Cj m.b)++[Cj u.b])):
  Az (i.setCell ⟨c,2,none⟩ k.val) c F j k t w n M (l++[u])/\bj (Bj c h f) z (i.setCell ⟨c,2,none⟩ k.val)/\(∀a,Ux c j k t w n (l++[u]) a->a<o.heap.size->Ux c j q h f n l a):=by
 have Y:=I.size;have W:=e.frame.size;have X:=r.size;have L:qq i c j t q:=aj.below e.row (aj.lt e.row) r;have E:=e.known.below r;have x:bj (fun a=>a=c) i (i.setCell ⟨c,2,none⟩ k.val):=(bj.refl (fun a=>a=c) _).setCell (p:=⟨c,2,none⟩) rfl _;have K:∀a,a<o.heap.size->Bj c t w a->Bj c h f a:=fun a J b=>e.muts a b J;have P:bj (Bj c h f) o i:=e.frame.trans (bj.of_below_all r);have C:bj (Bj c h f) o (i.setCell ⟨c,2,none⟩ k.val):=P.trans (x.mono (fun a _ b=>SM b));have D:=e.nodes u (by simp);refine⟨⟨by simpa using aj.set L 2 k.val,E.frameSb x (Az.mp_ne L E),g.ent.frame C g.entf,fun a b s=>g.entf a b (K a (g.ent.lt a b) s),?_,?_,?_,g.rise,g.ok,g.norm,g.len⟩,(bj.of_below_all I).trans C,?_⟩
 .rw[XM,rN];exact ij (Hj y (fun a _=>nN _)) x (fun a b v=>by have:=(y.lt a b).1;have:=aj.lt e.row;omega)
 .intro a b s;have T:=(y.lt a b).1;have U:=Bj.lt e.known (aj.lt e.row) a s;omega
 .intro m d;rcases fN.1 d with d|d
  .obtain⟨G,H⟩:=g.nds m d;exact⟨G.frame C H,fun a b s=>H a b (K a (G.lt a b) s)⟩
  .simp only[eN]at d;subst d;exact⟨(D.1.below r).frame x (fun a b v=>D.2 a b (SM v)),D.2⟩
 .intro a b J;have N:Iv f a\/Nv n a->Ux c j q h f n l a:=fun B=>by
   rcases B with B|⟨m,d,S,Q,v⟩
   .exact RM (RM (SM B))
   .exact RM (SM (RM ⟨m,d,SM ⟨S,Q,v⟩⟩))
  rcases b with b|b|b|b|⟨m,d,b⟩
  .exact SM (e.muts a b (by omega))
  .exact RM (SM b)
  .exact N (e.kfoot a b (by omega))
  .have:=(y.lt a b).1;omega
  .rcases fN.1 d with d|d
   .exact RM (RM (RM (RM ⟨m,d,b⟩)))
   .simp only[eN]at d;subst d;exact N (e.nfoot m (by simp) a b (by omega))
theorem SY(a:World)(b:dj)(d:List Nd)(c:Nat)(F:d.length<=40)(B:jj a b.a (d.map (fun e=>Cj e.b)))(n:b.n=d.length)(z:b.a=none->b.n=0/\b.cap=0):
  CP 82 #[.slice (some ⟨a.heap.size+1,0,none⟩) 2 2] ((a.alloc (.cells #[.pointer (some ⟨c,0,none⟩)] 138)).alloc (.cells #[.slice b.a b.n b.cap,.slice (some ⟨a.heap.size,0,none⟩) 1 1] 128))
   fun m l=>∃f:dj,m=.returned (.slice f.a f.n f.cap)/\l.ownsRow a.heap.size 138 1 f.val (d.length+1) (d.map (fun e=>Cj e.b)++[Cj c])/\Below a.heap.size a l:=by
 have g:Below a.heap.size a ((a.alloc (.cells #[.pointer (some ⟨c,0,none⟩)] 138)).alloc (.cells #[.slice b.a b.n b.cap,.slice (some ⟨a.heap.size,0,none⟩) 1 1] 128)):=tO.alloc (by simp) _;have q:aj ((a.alloc (.cells #[.pointer (some ⟨c,0,none⟩)] 138)).alloc (.cells #[.slice b.a b.n b.cap,.slice (some ⟨a.heap.size,0,none⟩) 1 1] 128)) a.heap.size 138 [Cj c]:=(aj.new a 138 [Cj c]).alloc _;have i:aj ((a.alloc (.cells #[.pointer (some ⟨c,0,none⟩)] 138)).alloc (.cells #[.slice b.a b.n b.cap,.slice (some ⟨a.heap.size,0,none⟩) 1 1] 128)) (a.heap.size+1) 128 [.slice b.a b.n b.cap,.slice (some ⟨a.heap.size,0,none⟩) 1 1]:=aj.new_at (a.alloc (.cells #[.pointer (some ⟨c,0,none⟩)] 138)) 128 (a.heap.size+1) _ (by simp);have C:=B.below_all g;generalize ((a.alloc (.cells #[.pointer (some ⟨c,0,none⟩)] 138)).alloc (.cells #[.slice b.a b.n b.cap,.slice (some ⟨a.heap.size,0,none⟩) 1 1] 128))=u at*;have r:pN [(b,d.map (fun e=>Cj e.b)),(⟨some ⟨a.heap.size,0,none⟩,1,1⟩,[Cj c])]=d.length+1:=by simp[pN,n]
 have A:pC [(b,d.map (fun e=>Cj e.b)),(⟨some ⟨a.heap.size,0,none⟩,1,1⟩,[Cj c])]=d.map (fun e=>Cj e.b)++[Cj c]:=by simp[pC]
 have o:∀(s:List Nat),∀t∈s.map Cj,t.oneCell'=true:=fun s t D=>by obtain⟨H,_,rfl⟩:=vN.1 D;rfl
 have x:=dW (a.heap.size+1) 2 [(b,d.map (fun e=>Cj e.b)),(⟨some ⟨a.heap.size,0,none⟩,1,1⟩,[Cj c])] u rfl (by simp) (by rw[r];omega) ?_ i.lt ?_
 .refine x.mono ?_;rintro m l ⟨f,rfl,h,w⟩;refine⟨f,rfl,?_,g.trans (w.mono g.size)⟩;rw[r,A]at h;exact Hj h (fun E y=>WM g.size (h.lt E y).1)
 .intro k j
  match k,j with
  |0,_=>exact i.cell 0 (by simp)
  |1,_=>exact i.cell 1 (by simp)
 .intro G p;simp only[IN,jaj,or_false]at p;rcases p with rfl|rfl
  .refine⟨C,by simp[n],z,?_⟩;have:=o (d.map (·.b));rw[Baj]at this;exact this
  .refine⟨?_,rfl,(fun v=>by cases v),o [c]⟩;intro k j;exact⟨a.heap.size,0,rfl,q.lt,by rw[sN];exact q.cell k j⟩
end
section
attribute [local go_sem↓] Go.wp_at_zero Go.wp_at_succ
theorem lG(f a5:Nat)(r e:dj)(C:Option Nat)(o:List Tj)(q:List Pj)(m:List ej)(g:List Nd)(b:World)(z:Az b f a5 r e C o q m g)(cv:g.length<40)(cB:a5<=700000):
  CP 44 #[.pointer (some ⟨f,0,none⟩)] b fun n aS=>∃(br:dj) (an:Option Nat) (ai:List Tj) (c:Nd) (b7:Nat),n=.returned (.tuple #[.agg (Fx g.length (Sz m) (g.length+1) (Uj 42 (g.map sj++[Sz m]))).toArray,.int .i64 0])/\
   Az aS f b7 r br an ai q m (g++[c])/\sj c=Sz m/\b7<=a5+500/\bj (Bj f C o) b aS/\(∀d,Ux f r br an ai q (g++[c]) d->d<b.heap.size->Ux f r e C o q g d)/\(∀d,Bj f an ai d->d<b.heap.size->Bj f C o d)/\
   ∃(j:List (List Nd)) (x:Nat),yz (Rj m) j/\j.length=x+1/\j[x]? =some [c]/\bx o (Nv q) b.heap.size (Bj f an ai) aS j:=by
 have bl:=aj.lt z.row;obtain⟨am,c3,c4,bo⟩:=vj (a:=e.a) (n':=e.n) (cap:=e.cap) z.own;have O:Below b.heap.size b (b.alloc (.cells kO 103)):=tO;have aD:Below b.heap.size b ((b.alloc (.cells kO 103)).drew):=⟨O.os,O.tape,O.output,O.size,O.block⟩;have L:=z.below aD;have bP:(b.alloc (.cells kO 103)).cell? ⟨f,2,none⟩=some (.slice e.a e.n e.cap):=aj.cell (z.below O).row 2 (by simp);have bO:(b.alloc (.cells kO 103)).cell? ⟨f,0,none⟩=some (.slice r.a r.n r.cap):=aj.cell (z.below O).row 0 (by simp);have bh:aj ((b.alloc (.cells kO 103)).drew) b.heap.size 103 Mq:=aj.new b _ _;have av:Hd (Calls _ _ _ _ _):=OH f a5 r e C o q m _ L.row L.known (by omega) L.ent L.len L.ok L.norm L.entf;have af:Hd (Az ((b.alloc (.cells kO 103)).drew) f a5 r e C o q m g):=L;have ag:Hd (∀d,Ux f r e C o q g d->d<b.heap.size):=z.lt;have b6:Hd (e.n=g.length):=am;have cA:¬(40:Int)<=(e.n:Int):=by rw[am];omega
 have cC:(e.n:Int)<=40:=by rw[am];omega
 have bC:Hd (e.a=none->e.n=0/\e.cap=0):=fun n=>by
  rcases bo with⟨_,aC,bS⟩|⟨ak,aC,_⟩
  .exact⟨by omega,bS⟩
  .rw[n]at aC;cases aC
 have bs:Hd (BB b ((b.alloc (.cells kO 103)).drew)):=aD;have ap:Hd (aj ((b.alloc (.cells kO 103)).drew) b.heap.size 103 Mq):=bh;have bD:Hd (∀N∈m,N.below=0):=z.norm;clear L O aD bh am c3 c4 bo;unfold dj.val at av;go_enter Tryz.func44,Tryz.ntmps44;go_wp2
 go_region_with (go_at_call 81;refine av.o.mono ?_;rintro n R ⟨c8,c,aB,V,S,rfl,Q,bT,bc,be⟩)
 have b5:Hd (Jz ((b.alloc (.cells kO 103)).drew) f r e C o (Nv q) R aB V S c8 [c]):=Q;have b3:Hd (∃(j:List (List Nd)) (x:Nat),yz (Rj m) j/\j.length=x+1/\j[x]? =some [c]/\bx o (Nv q) (b.heap.size+1) (Bj f V S) R j):=by
  obtain⟨j,x,ac,ad,ae,a4⟩:=be;exact⟨j,x,ac,ad,ae,a4.less (by show _<=(b.alloc _).heap.size;simp)⟩
 clear be;have bB:Hd (∀d,Bj f V S d->d<b.heap.size->Bj f C o d):=fun d A bd=>Q.muts d A (by show _<(b.alloc _).heap.size;simp;omega);have au:Hd (sj c=Sz m):=by
  have n:=FU bD.o;rw[<-bc]at n;exact n
 have c1:R.cell? ⟨f,2,none⟩=some (.slice e.a e.n e.cap):=aj.cell Q.row 2 (by simp);have aT:Hd (Calls _ _ _ _ _):=SY R e g c.b (by omega) ((jj.ofOwn (s:=e) af.o.own).1.frame Q.frame (fun N U=>af.o.trf N.block (by show(Value.slice e.a e.n e.cap).ownBlock=_;rw[U];rfl))) b6.o bC.o;have bi:aj R b.heap.size 103 Mq:=ap.o.of_block (Q.frame.block _ ap.o.lt (fun aa=>by have:=ag.o _ (SM aa);omega));have bb:∀(y:World),BB R y->y.cell? ⟨f,2,none⟩=some (.slice e.a e.n e.cap)/\y.frozen? ⟨f,2,none⟩=false:=fun y c0=>by
  have bg:=aj.below Q.row (aj.lt Q.row) c0;exact⟨aj.cell bg 2 (by simp),aj.frozen bg 2⟩
 have b0:Hd (∀(y:World),BB R y->y.cell? ⟨f,2,none⟩=some (.slice e.a e.n e.cap)/\y.frozen? ⟨f,2,none⟩=false):=bb;have ar:Hd (aj R b.heap.size 103 Mq):=bi;have cc:Hd (f<b.heap.size):=bl;clear Q bc bb bi ap av;go_wp2_with (go_at_call 82;refine aT.o.mono ?_;rintro n y ⟨t,rfl,bf,a8⟩;obtain⟨c5,c6⟩:=b0.o y a8);obtain⟨T,aI,aE⟩:=KU af.o bs.o ag.o b5.o a8 bf;have aO:aj (y.setCell ⟨f,2,none⟩ t.val) b.heap.size 103 Mq:=(ar.o.below ar.o.lt a8).other (by exact Nat.ne_of_gt bl) _;unfold dj.val at T aI aO;have bA:Hd (∃(j:List (List Nd)) (x:Nat),yz (Rj m) j/\j.length=x+1/\j[x]? =some [c]/\bx o (Nv q) (b.heap.size+1) (Bj f V S) (y.setCell ⟨f,2,none⟩ (.slice t.a t.n t.cap)) j):=by
  obtain⟨j,x,ac,ad,ae,a4⟩:=b3.o;exact⟨j,x,ac,ad,ae,(a4.below a8).next ((bj.refl (fun d=>d=f) _).setCell (p:=⟨f,2,none⟩) rfl _) (fun d A=>SM A) (fun d A _=>A)⟩
 clear b3;have bw:Hd (∀d,Iv o d\/Nv q d->d<b.heap.size):=fun d ak=>ag.o d (by
  rcases ak with ak|⟨N,U,cb,ab,n⟩
  .exact RM (RM (SM ak))
  .exact RM (SM (RM ⟨N,U,SM ⟨cb,ab,n⟩⟩)))
 generalize y.setCell ⟨f,2,none⟩ (.slice t.a t.n t.cap)=h at*;obtain⟨D,E,F,G,H,I,J,K,ab⟩:=uj (Aj (Gj c.level c.its)) rfl;have B:=(T.nds c (by simp)).1.row;rw[Hk c ab]at B;have cd:h.cell? ⟨c.b,2,none⟩=some (.int .u8 D.toNat):=B.cell 2 (by simp);have cf:h.cell? ⟨c.b,3,none⟩=some (.int .u8 E.toNat):=B.cell 3 (by simp);have ch:h.cell? ⟨c.b,4,none⟩=some (.int .u8 F.toNat):=B.cell 4 (by simp);have cj:h.cell? ⟨c.b,5,none⟩=some (.int .u8 G.toNat):=B.cell 5 (by simp);have cl:h.cell? ⟨c.b,6,none⟩=some (.int .u8 H.toNat):=B.cell 6 (by simp);have cn:h.cell? ⟨c.b,7,none⟩=some (.int .u8 I.toNat):=B.cell 7 (by simp);have cp:h.cell? ⟨c.b,8,none⟩=some (.int .u8 J.toNat):=B.cell 8 (by simp);have ct:h.cell? ⟨c.b,9,none⟩=some (.int .u8 K.toNat):=B.cell 9 (by simp);obtain⟨bm,bn⟩:=jj.ofOwn (s:=t) T.own;have ba:Below h.heap.size h h.drew:=⟨rfl,rfl,rfl,TM _,fun _ _=>rfl⟩;have ao:Hd (Calls _ _ _ _ _):=PH f t (g++[c]) h.drew (aj.cell T.row 2 (by simp)) bm bn (by simp;omega) (fun N U=>(T.nds N U).1.below ba);have bk:(g++[c]).map sj=g.map sj++[Sz m]:=by rw[rN];simp[au.o]
 rw[bk]at ao;obtain⟨W,X,Y,Z,a0,a1,a2,a3,aR⟩:=uj (Uj 42 (g.map sj++[Sz m])) (Wj 41 _);obtain⟨M,aa⟩:∃M,M=g.length+1:=⟨_,rfl⟩;have b2:Hd (Value.agg (JU (g++[c]).length (Uj 42 (g.map sj++[Sz m]))).toArray=.agg (vO (M:Int) W X Y Z a0 a1 a2 a3)):=by
  unfold Hd;rw[aR,XM,VN,<-aa];rfl
 have bu:Hd (Fx g.length (Sz m) (g.length+1) (Uj 42 (g.map sj++[Sz m]))=BV e.n M D E F G H I J K W X Y Z a0 a1 a2 a3):=by
  unfold Hd;have bR:Sz m=[D,E,F,G,H,I,J,K]:=by rw[<-au.o];exact ab
  rw[aR,bR,b6.o,aa];rfl
 have bE:Hd (Az h f aB r ⟨t.a,t.n,t.cap⟩ V S q m (g++[c])):=T;have bv:Hd (bj (Bj f C o) b h):=aI;have bp:((b.alloc (.cells kO 103)).drew).heap.size=b.heap.size+1:=by show(b.alloc _).heap.size=_;simp
 rw[bp]at aE;have b1:Hd (∀d,Ux f r t V S q (g++[c]) d->d<b.heap.size+1->Ux f r e C o q g d):=aE;clear bp;have ah:Hd (aj h b.heap.size 103 Mq):=aO;have b4:Hd (aj h c.b 142 [c.la.val,c.by_.val,.int .u8 D.toNat,.int .u8 E.toNat,.int .u8 F.toNat,.int .u8 G.toNat,.int .u8 H.toNat,.int .u8 I.toNat,.int .u8 J.toNat,.int .u8 K.toNat,c.be.val]):=B;clear T aI aE aO B ab aR aa bk bm bn ba bf a8 b5 af ar b0 aT c1 bP bO c5 c6;go_wp2
 go_region_with (first
  |(go_at_call 83;refine ao.o.mono ?_;rintro n u ⟨rfl,l⟩;rw[b2.o];have aP:aj u b.heap.size 103 Mq:=aj.below (w:=h.drew) ah.o ah.o.lt l;rename_i ax a6;refine a6 _ _ ?_;clear a6 ax;go_loud (refine wpAny_take (i:=7) (v:=.agg #[(.int .i64 (e.n:Int)),(.int .u8 D.toNat),(.int .u8 E.toNat),(.int .u8 F.toNat),(.int .u8 G.toNat),(.int .u8 H.toNat),(.int .u8 I.toNat),(.int .u8 J.toNat),(.int .u8 K.toNat),(.int .i64 M),(.int .u8 W.toNat),(.int .u8 X.toNat),(.int .u8 Y.toNat),(.int .u8 Z.toNat),(.int .u8 a0.toNat),(.int .u8 a1.toNat),(.int .u8 a2.toNat),(.int .u8 a3.toNat)]) rfl (by kernel_rfl) (by kernel_rfl) (by kernel_rfl) (fun _ _ _ z=>z) (SM ⟨by rfl,?_⟩) ?_);go_loud (focus (intro ca;go_simp;done));go_loud (refine wpAny_ready (rs:=[8]) (by kernel_rfl) (Iaj _ _) ?_;refine AllReady.cons rfl (fun aA a7=>?_) AllReady.nil;refine EZ (by rfl) 103 (.tmp 2) (.tmp 48) (by rfl) b.heap.size (by rfl) (BV e.n M D E F G H I J K W X Y Z a0 a1 a2 a3) (by rfl) aP rfl Tryz.sizeCommit RY ?_;intro c9 b9 al;refine a7 _ _ ?_;clear a7 aA))
  |(go_at_call 83;refine ao.o.mono ?_;rintro n u ⟨rfl,l⟩;rw[b2.o];have aP:aj u b.heap.size 103 Mq:=aj.below (w:=h.drew) ah.o ah.o.lt l;rename_i ax a6;refine a6 _ _ ?_;clear a6 ax;have P:=aj.below (w:=h.drew) b4.o b4.o.lt l;refine wpAny_ready (rs:=[4]) ?_ (Iaj _ _) ?_;kernel_rfl;have ce:u.cell? ⟨c.b,2,none⟩=some (.int .u8 D.toNat):=aj.cell P 2 (by simp);have cg:u.cell? ⟨c.b,3,none⟩=some (.int .u8 E.toNat):=aj.cell P 3 (by simp);have ci:u.cell? ⟨c.b,4,none⟩=some (.int .u8 F.toNat):=aj.cell P 4 (by simp);have ck:u.cell? ⟨c.b,5,none⟩=some (.int .u8 G.toNat):=aj.cell P 5 (by simp);have cm:u.cell? ⟨c.b,6,none⟩=some (.int .u8 H.toNat):=aj.cell P 6 (by simp);have co:u.cell? ⟨c.b,7,none⟩=some (.int .u8 I.toNat):=aj.cell P 7 (by simp);have cr:u.cell? ⟨c.b,8,none⟩=some (.int .u8 J.toNat):=aj.cell P 8 (by simp);have cu:u.cell? ⟨c.b,9,none⟩=some (.int .u8 K.toNat):=aj.cell P 9 (by simp);refine AllReady.cons rfl (fun bI b8=>?_) AllReady.nil;go_simp;refine b8 _ _ ?_;clear b8 bI;go_loud (refine wpAny_take (i:=7) (v:=.agg #[(.int .i64 (e.n:Int)),(.int .u8 D.toNat),(.int .u8 E.toNat),(.int .u8 F.toNat),(.int .u8 G.toNat),(.int .u8 H.toNat),(.int .u8 I.toNat),(.int .u8 J.toNat),(.int .u8 K.toNat),(.int .i64 M),(.int .u8 W.toNat),(.int .u8 X.toNat),(.int .u8 Y.toNat),(.int .u8 Z.toNat),(.int .u8 a0.toNat),(.int .u8 a1.toNat),(.int .u8 a2.toNat),(.int .u8 a3.toNat)]) rfl (by kernel_rfl) (by kernel_rfl) (by kernel_rfl) (fun _ _ _ z=>z) (SM ⟨by rfl,?_⟩) ?_);go_loud (focus (intro ca;go_simp;done));go_loud (refine wpAny_ready (rs:=[8]) (by kernel_rfl) (Iaj _ _) ?_;refine AllReady.cons rfl (fun aA a7=>?_) AllReady.nil;refine EZ (by rfl) 103 (.tmp 2) (.tmp 48) (by rfl) b.heap.size (by rfl) (BV e.n M D E F G H I J K W X Y Z a0 a1 a2 a3) (by rfl) aP rfl Tryz.sizeCommit RY ?_;intro c9 b9 al;refine a7 _ _ ?_;clear a7 aA)))
 all_goals
  go_wp2;rw[bu.o];refine Lq (k:=2) (k2:=3) (cs:=BV e.n M D E F G H I J K W X Y Z a0 a1 a2 a3) rfl rfl rfl b9 Tryz.underlying103 rfl Tryz.sizeCommit rfl ⟨t,V,S,c,aB,rfl,?_,au.o,bT,?_,fun d A bd=>b1.o d A (by omega),bB.o,?_⟩
  .have a9:Below h.heap.size h u:=⟨l.os,l.tape,l.output,l.size,l.block⟩;exact(bE.o.below a9).frame al (fun d A n=>by have:=ag.o d (b1.o d A (by omega));omega)
  .have a9:Below h.heap.size h u:=⟨l.os,l.tape,l.output,l.size,l.block⟩;exact(bv.o.trans (bj.of_below_all a9)).inside al (fun d bd n=>by omega)
  .have a9:Below h.heap.size h u:=⟨l.os,l.tape,l.output,l.size,l.block⟩;obtain⟨j,x,ac,ad,ae,a4⟩:=bA.o;exact⟨j,x,ac,ad,ae,((a4.below a9).frame al (fun c7 c2 N U d A n=>by have:=bw.o d (a4.foot c7 c2 N U d A (by omega));omega)).less (by omega)⟩
end
section
theorem RL(s:Value)(f g:Option Addr)(a h c i:Nat)(b:World)(j:a<=maxLen)(k:c<=maxLen)(p:((decide (1<=a)&&decide (a<=12))&&decide (c<=12))=false):
  CP 40 #[s,.slice f a h,.slice g c i] b fun d t=>d=.returned (.int .i64 1)/\t=b:=by
 have e:Hd (Calls _ _ _ _ _):=Mv f a h b j;have m:Hd (Calls _ _ _ _ _):=Cw g c i b k;clear j k;generalize (decide (1<=a)&&decide (a<=12))=n at*;generalize decide (c<=12)=o at*;cases n
 .go_enter Tryz.func40,Tryz.ntmps40;go_wp2_with (go_at_call 27;refine e.o.mono ?_;rintro d l ⟨rfl,rfl⟩);go_ret;exact⟨rfl,rfl⟩
 .obtain rfl:o=false:=by simpa using p
  go_enter Tryz.func40,Tryz.ntmps40;go_wp2_with (first|(go_at_call 27;refine e.o.mono ?_;rintro d l ⟨rfl,q⟩;obtain rfl:b=l:=q.symm)|(go_at_call 78;refine m.o.mono ?_;rintro d u ⟨rfl,r⟩;obtain rfl:b=u:=r.symm));go_ret;exact⟨rfl,rfl⟩
theorem QH(j:Nat)(b L:dj)(K:Option Nat)(r:List Pj)(i:List ej)(d f:dj)(e:List UInt8)(c:World)(q:qq c j b K L)(g:Iz c b r i)(C:qx i)(w:r.length=60)(n:BS c d e)
  (z:1<=e.length)(A:e.length<=12)(E:f.n<=12)(y:Qj i e=false):
  CP 40 #[.pointer (some ⟨j,0,none⟩),d.val,f.val] c fun m M=>m=.returned (.int .i64 2)/\Below c.heap.size c M:=by
 have J:=q.lt;have v:c.cell? ⟨j,0,none⟩=some (.slice b.a b.n b.cap):=q.cell 0 (by simp);obtain⟨o,I,H,G⟩:=vj (a:=b.a) (n':=b.n) (cap:=b.cap) g.own;have D:=(jj.ofOwn (s:=b) g.own).1;have t:Hd (Calls _ _ _ _ _):=Mv d.a d.n d.cap c (by rw[n.n];unfold maxLen;omega);have u:Hd (Calls _ _ _ _ _):=Cw f.a f.n f.cap c (by unfold maxLen;omega);have B:(decide (1<=d.n)&&decide (d.n<=12))=true:=by rw[n.n];simp[z,A]
 have F:decide (f.n<=12)=true:=by simp[E]
 rw[B]at t;rw[F]at u;have l:Hd (Calls _ _ _ _ _):=kJ b r i d e c o g.len (by omega) D g.ok C n;rw[y]at l;generalize pj i e=O at*;rw[w]at o;unfold dj.val at l⊢;rw[o]at v l;clear B F y H z A E G g q C n I D w o;go_enter Tryz.func40,Tryz.ntmps40;go_wp2_with fail;refine t.o.mono ?_;rintro m k ⟨rfl,h⟩;obtain rfl:c=k:=h.symm;clear h;go_wp2_with fail;refine u.o.mono ?_;rintro m k ⟨rfl,h⟩;obtain rfl:c=k:=h.symm;clear h;go_wp2_with fail;refine l.o.mono ?_;rintro m k ⟨rfl,x⟩;have N:k.cell? ⟨j,0,none⟩=some (.slice b.a 60 b.cap):=by rw[x.cell (p:=⟨j,0,none⟩) J];exact v
 go_wp2;go_ret;exact⟨rfl,x⟩
theorem SL(i:Value)(d:Option Addr)(a e:Nat)(b:World)(h:a<=maxLen)(g:(decide (1<=a)&&decide (a<=12))=false):
  CP 42 #[i,.slice d a e] b fun f j=>f=.returned (.int .i64 1)/\j=b:=by
 have c:Hd (Calls _ _ _ _ _):=Mv d a e b h;rw[g]at c;clear h g;go_enter Tryz.func42,Tryz.ntmps42;go_wp2_with (go_at_call 27;refine c.o.mono ?_;rintro f k ⟨rfl,rfl⟩);go_ret;exact⟨rfl,rfl⟩
theorem RH(l:Nat)(b D:dj)(C:Option Nat)(m:List Pj)(g:List ej)(d:dj)(e:List UInt8)(c:World)(k:qq c l b C D)(f:Iz c b m g)(u:qx g)(x:m.length<=60)(h:BS c d e)
  (p:1<=e.length)(q:e.length<=12)(t:Qj g e=false):
  CP 42 #[.pointer (some ⟨l,0,none⟩),d.val] c fun j E=>j=.returned (.int .i64 3)/\Below c.heap.size c E:=by
 have H:=k.lt;have G:c.cell? ⟨l,0,none⟩=some (.slice b.a b.n b.cap):=k.cell 0 (by simp);obtain⟨o,B,A,z⟩:=vj (a:=b.a) (n':=b.n) (cap:=b.cap) f.own;have v:=(jj.ofOwn (s:=b) f.own).1;have n:Hd (Calls _ _ _ _ _):=Mv d.a d.n d.cap c (by rw[h.n];unfold maxLen;omega);have r:(decide (1<=d.n)&&decide (d.n<=12))=true:=by rw[h.n];simp[p,q]
 rw[r]at n;have i:Hd (Calls _ _ _ _ _):=kJ b m g d e c o f.len (by omega) v f.ok u h;rw[t]at i;generalize pj g e=I at*;unfold dj.val at i⊢;clear r t A p q z f k u h B v x o;go_enter Tryz.func42,Tryz.ntmps42;go_wp2_with (first|(go_at_call 27;refine n.o.mono ?_;rintro j F ⟨rfl,w⟩;obtain rfl:c=F:=w.symm;clear w)|(go_at_call 29;refine i.o.mono ?_;rintro j J ⟨rfl,y⟩));go_ret;exact⟨rfl,y⟩
theorem PX(e:World)(d a:dj)(c:List Pj)(b f:Nat)(s:b<=c.length)(L:f<=c.length)(K:c.length<=60)(j:∀g∈c,g.d.length=8)(G:jj e d.a (Sj c))(C:d.a=none->b=0/\d.cap=0)
  (x:jj e a.a (Sj (c.drop f)))(r:a.n=c.length - f)(D:a.a=none->a.n=0/\a.cap=0):
  CP 79 #[.slice (some ⟨e.heap.size,0,none⟩) 2 2] ((e.alloc (.cells #[.slice d.a b d.cap,.slice a.a a.n a.cap] 67)).drew)
   fun q o=>∃h:dj,q=.returned (.slice h.a h.n h.cap)/\o.ownsRow e.heap.size 74 10 h.val (nz c b [] f).length (Sj (nz c b [] f))/\Below e.heap.size e o:=by
 have i:Below e.heap.size e ((e.alloc (.cells #[.slice d.a b d.cap,.slice a.a a.n a.cap] 67)).drew):=by
  have w:=(bj.refl (fun _=>False) e).alloc (.cells #[.slice d.a b d.cap,.slice a.a a.n a.cap] 67);exact w.drew.below (TM _) (fun v k=>by cases k)
 have m:aj ((e.alloc (.cells #[.slice d.a b d.cap,.slice a.a a.n a.cap] 67)).drew) e.heap.size 67 [.slice d.a b d.cap,.slice a.a a.n a.cap]:=aj.new e 67 _;have H:=G.below_all i;have y:=x.below_all i;generalize ((e.alloc (.cells #[.slice d.a b d.cap,.slice a.a a.n a.cap] 67)).drew)=p at*;have I:∀g∈c.take b,g.d.length=8:=fun g n=>j g (TN n);have B:∀g∈c.drop f,g.d.length=8:=fun g n=>j g (laj n);have u:pN [(⟨d.a,b,d.cap⟩,Sj (c.take b)),(a,Sj (c.drop f))]=(nz c b [] f).length:=by
  simp[pN,nz,r];omega
 have E:pC [(⟨d.a,b,d.cap⟩,Sj (c.take b)),(a,Sj (c.drop f))]=Sj (nz c b [] f):=by
  simp[pC,nz,Sj]
 have A:=AZ e.heap.size 2 [(⟨d.a,b,d.cap⟩,Sj (c.take b)),(a,Sj (c.drop f))] p rfl (by simp) (by rw[u];simp[nz];omega) ?_ m.lt ?_
 .refine A.mono ?_;rintro q o ⟨h,rfl,l,z⟩;refine⟨h,rfl,?_,i.trans (z.mono i.size)⟩;rw[u,E]at l;exact Hj l (fun v k=>WM i.size (l.lt v k).1)
 .intro J F
  match J,F with
  |0,_=>exact m.cell 0 (by simp)
  |1,_=>exact m.cell 1 (by simp)
 .intro M t;simp only[IN,jaj,or_false]at t;rcases t with rfl|rfl
  .refine⟨?_,?_,C,Gk _⟩
   .show jj p d.a (Sj (c.take b));rw[UQ c j b s];exact H.take _
   .show(Sj (c.take b)).length=b*10;rw[mv _ I,aN,LN s]
  .refine⟨y,?_,D,Gk _⟩;show(Sj (c.drop f)).length=a.n*10;rw[mv _ B,oN,r]
theorem eU{g:Type}(b:List g)(a e:Nat)(h:a<=b.length)(c:Nat):(b.take a++b.drop e)[c]? =if c<a then b[c]? else b[e+(c - a)]? :=by
 have f:(b.take a).length=a:=by rw[aN];omega
 by_cases d:c<a
 .rw[if_pos d,DN (by omega),Yaj d]
 .rw[if_neg d,MN (by omega),f,oaj]
theorem fU{h q i:World}{e:Nat}{n F g:dj}{E:Option Nat}{c:List Pj}{k:List ej}{b d:Nat}(t:qq h e n E F)(M:∀a,tx n c a->a≠e)(s:Iz h n c k)(u:Below h.heap.size h q)(N:b<=c.length)
  (C:i.ownsRow q.heap.size 74 10 g.val (nz c b [] d).length (Sj (nz c b [] d)))(L:Below q.heap.size q i):
  qq (i.setCell ⟨e,0,none⟩ g.val) e g E F/\Iz (i.setCell ⟨e,0,none⟩ g.val) g (nz c b [] d) (k.take b++k.drop d)/\bj (fun a=>a=e) h (i.setCell ⟨e,0,none⟩ g.val)/\
   (∀a,tx g (nz c b [] d) a->a<h.heap.size->tx n c a):=by
 have r:Below h.heap.size h i:=u.trans (L.mono u.size);have A:∀a,tx g (nz c b [] d) a->a<h.heap.size->tx n c a:=fun a o Q=>by
  rcases o with o|⟨O,j,o⟩
  .have:=(C.lt a o).1;have:=u.size;omega
  .refine RM ⟨O,?_,o⟩;unfold nz at j;simp only[XN,fN]at j;rcases j with j|j
   .exact TN j
   .exact laj j
 refine⟨by simpa using(aj.below t (aj.lt t) r).set 0 g.val,?_,(bj.of_below_all (S:=fun a=>a=e) r).setCell (p:=⟨e,0,none⟩) rfl _,A⟩;have K:Iz i g (nz c b [] d) (k.take b++k.drop d):=by
  refine⟨Hj C (fun a B=>nN _),?_,?_⟩
  .have:=s.len;simp[nz];omega
  .intro f I J;have P:=s.len;have G:(nz c b [] d)[f]? =(if f<b then c[f]? else c[d+(f - b)]?):=by unfold nz;rw[XN];exact eU c b d N f
   have H:=eU k b d (by omega) f;have l:(nz c b [] d)[f]? =some (nz c b [] d)[f]:=UM I;have m:=UM J;rw[G]at l;rw[H]at m;by_cases D:f<b
   .rw[if_pos D]at l m;obtain⟨v,w⟩:=kN.1 l;obtain⟨x,y⟩:=kN.1 m;rw[<-y];have:=(s.ok f v x).below r;rw[w]at this;exact this
   .rw[if_neg D]at l m;obtain⟨v,w⟩:=kN.1 l;obtain⟨x,y⟩:=kN.1 m;rw[<-y];have:=(s.ok _ v x).below r;rw[w]at this;exact this
 refine K.frame ((bj.refl (fun a=>a=e) i).setCell (p:=⟨e,0,none⟩) rfl _) (fun a B z=>?_);exact M a (A a B (by rw[z];exact aj.lt t)) z
theorem SH(e d b c:Nat)(ad:dj)(ac:Option Nat)(j:List Pj)(o:List ej)(x:dj)(r:List UInt8)(h:World)(C:qq h e ⟨some ⟨d,0,none⟩,b,c⟩ ac ad)(a7:∀w,tx ⟨some ⟨d,0,none⟩,b,c⟩ j w->w≠e)(q:Iz h ⟨some ⟨d,0,none⟩,b,c⟩ j o)(al:qx o)(I:j.length<=60)(U:BS h x r)
  (a8:1<=r.length)(a9:r.length<=12)(Z:Qj o r=true):
  CP 42 #[.pointer (some ⟨e,0,none⟩),x.val] h fun y a1=>y=.returned (.int .i64 0)/\
   ∃T ae,qq a1 e T ac ad/\Iz a1 T ae (uw o r)/\bj (fun w=>w=e) h a1/\(∀w,tx T ae w->w<h.heap.size->tx ⟨some ⟨d,0,none⟩,b,c⟩ j w):=by
 have v:=C.lt;have a5:h.cell? ⟨e,0,none⟩=some (.slice (some ⟨d,0,none⟩) b c):=C.cell 0 (by simp);obtain⟨J,ab,a6,_⟩:=vj (a:=some ⟨d,0,none⟩) (n':=b) (cap:=c) q.own;have K:jj h (some ⟨d,0,none⟩) (Sj j):=(jj.ofOwn (s:=⟨some ⟨d,0,none⟩,b,c⟩) q.own).1;have P:Hd (Calls _ _ _ _ _):=Mv x.a x.n x.cap h (by rw[U.n];unfold maxLen;omega);have aa:(decide (1<=x.n)&&decide (x.n<=12))=true:=by rw[U.n];simp[a8,a9]
 rw[aa]at P;have G:Hd (Calls _ _ _ _ _):=kJ ⟨some ⟨d,0,none⟩,b,c⟩ j o x r h J q.len (by omega) K q.ok al U;have W:=Lv Z;rw[q.len,<-J]at W;rw[Z]at G;have O:Hd (uw o r=o.take (pj o r)++o.drop (pj o r+1)):=rfl;generalize pj o r=k at*;have m:Hd (b=j.length):=J;have M:Hd (∀(l:World),BB h l->jj l (Fz (some ⟨d,0,none⟩) c (k+1) 10) (Sj (j.drop (k+1)))):=fun l D=>by
  have af:=jj.cut (n:=b) (cap:=c) (i:=k+1) (size:=10) (K.below_all D) (by rw[mv _ q.d8,m.o]) (by omega) (by omega);rw[uJ _ q.d8 _ (by have:=m.o;omega)];exact af
 have a3:Hd (∀ao∈j,ao.d.length=8):=q.d8;unfold maxLen at a6;have ag:(k:Int)+1<=b:=by omega
 have au:(k:Int)<=c:=by omega
 have ak:(b:Int)<=c:=by omega
 have ap:(c:Int)<=9223372036854775807:=by omega
 have a4:Hd (b<=c):=by unfold Hd;omega
 have B:Hd (k<b):=W;unfold dj.val at G⊢;clear aa Z a6 a8 a9 ab J W;obtain⟨f,X⟩:∃f:Nat,f=k+1:=⟨_,rfl⟩;have av:(k:Int)+1=(f:Int):=by omega
 have H:Hd (f=k+1):=X;rw[<-X]at M O;have ai:(f:Int)<=b:=by omega
 have ah:f<=b:=by omega
 have ax:(f:Int)<=9223372036854775807:=by omega
 have aA:IntKind.i64.wrap (f:Int)=(f:Int):=by simp only[qaj];omega
 have ar:(k:Int)<=1000:=by have:=m.o;omega
 clear X ag;by_cases V:c=f
 .have N:Hd (∀(l:World),BB h l->jj l (some ⟨d,0,none⟩) (Sj (j.drop f))):=fun l D=>by have:=M.o l D;unfold Fz at this;rw[if_pos V]at this;exact this
  obtain rfl:b=c:=by have:=a4.o;omega
  subst V;clear ak ai ah;go_enter Tryz.func42,Tryz.ntmps42;go_wp2_with (first|(go_at_call 27;refine P.o.mono ?_;rintro y a2 ⟨rfl,E⟩;obtain rfl:h=a2:=E.symm;clear E)|(go_at_call 29;refine G.o.mono ?_;rintro y u ⟨rfl,g⟩;have S:u.cell? ⟨e,0,none⟩=some (.slice (some ⟨d,0,none⟩) b b):=(by rw[g.cell (p:=⟨e,0,none⟩) v];exact a5)));have L:Hd (Calls _ _ _ _ _):=PX u ⟨some ⟨d,0,none⟩,b,b⟩ ⟨some ⟨d,0,none⟩,0,0⟩ j k b (by have:=m.o;have:=B.o;omega) (by have:=m.o;have:=B.o;have:=H.o;omega) I a3.o (K.below_all g) (fun z=>by cases z) (N.o u g) (by have:=m.o;have:=H.o;simp only;omega) (fun z=>by cases z);have R:Hd (u.frozen? ⟨e,0,none⟩=false):=(C.below v g).frozen 0;have Q:Hd (k<=j.length):=by have:=m.o;have:=B.o;unfold Hd;omega
  clear I
  go_region_with (go_at_call 79;refine L.o.mono ?_;rintro y F ⟨a0,rfl,Y,A⟩;have am:F.cell? ⟨e,0,none⟩=some (.slice (some ⟨d,0,none⟩) b b):=(by rw[A.cell (p:=⟨e,0,none⟩) (qN v g.size)];exact S);have an:F.frozen? ⟨e,0,none⟩=false:=(by rw[A.frozen (p:=⟨e,0,none⟩) (qN v g.size)];exact R.o))
  all_goals
   go_wp2;go_ret;have t:=fU C a7 q g Q.o Y A;refine⟨rfl,a0,_,t.1,?_,t.2.2.1,t.2.2.2⟩;rw[O.o];exact t.2.1
 .have N:Hd (∀(l:World),BB h l->jj l (some ⟨d,f*10,none⟩) (Sj (j.drop f))):=fun l D=>by have:=M.o l D;unfold Fz at this;rw[if_neg V]at this;simpa[Addr.add_mid]using this
  have ab:b<=c:=a4.o;go_enter Tryz.func42,Tryz.ntmps42;go_wp2_with (first|(go_at_call 27;refine P.o.mono ?_;rintro y a2 ⟨rfl,E⟩;obtain rfl:h=a2:=E.symm;clear E)|(go_at_call 29;refine G.o.mono ?_;rintro y u ⟨rfl,g⟩;have S:u.cell? ⟨e,0,none⟩=some (.slice (some ⟨d,0,none⟩) b c):=(by rw[g.cell (p:=⟨e,0,none⟩) v];exact a5)));have L:Hd (Calls _ _ _ _ _):=PX u ⟨some ⟨d,0,none⟩,b,c⟩ ⟨some ⟨d,f*10,none⟩,b - f,c - f⟩ j k f (by have:=m.o;have:=B.o;omega) (by have:=m.o;have:=B.o;have:=H.o;omega) I a3.o (K.below_all g) (fun z=>by cases z) (N.o u g) (by have:=m.o;have:=H.o;simp only;omega) (fun z=>by cases z);have R:Hd (u.frozen? ⟨e,0,none⟩=false):=(C.below v g).frozen 0;have Q:Hd (k<=j.length):=by have:=m.o;have:=B.o;unfold Hd;omega
  clear I
  go_region_with (go_at_call 79;refine L.o.mono ?_;rintro y F ⟨a0,rfl,Y,A⟩;have am:F.cell? ⟨e,0,none⟩=some (.slice (some ⟨d,0,none⟩) b c):=(by rw[A.cell (p:=⟨e,0,none⟩) (qN v g.size)];exact S);have an:F.frozen? ⟨e,0,none⟩=false:=(by rw[A.frozen (p:=⟨e,0,none⟩) (qN v g.size)];exact R.o))
  all_goals
   go_wp2;go_ret;have t:=fU C a7 q g Q.o Y A;refine⟨rfl,a0,_,t.1,?_,t.2.2.1,t.2.2.2⟩;rw[O.o];exact t.2.1
end
end Go.Proofs.YtekegfbjbainhaaGreat
