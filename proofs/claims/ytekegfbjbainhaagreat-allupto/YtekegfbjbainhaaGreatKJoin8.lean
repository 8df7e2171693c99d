import Derived.Test.YtekegfbjbainhaaGreatKPr15
set_option maxRecDepth 100000
set_option maxHeartbeats 4000000
set_option linter.unusedVariables false
set_option linter.unusedSimpArgs false
namespace Go.Proofs.YtekegfbjbainhaaGreat
open Go.RowKit
theorem KX{a b:Nat}(c:bt a=bt b)(d:a<256)(e:b<256):a=b:=by
 have:=congrArg UInt8.toNat c;unfold bt at this;rw[UInt8.toNat_ofNat_of_lt' d,UInt8.toNat_ofNat_of_lt' e]at this;exact this
theorem QL{e:Nat}{b c:ej}{j k:List UInt8}(h:Dq b)(i:Dq c)(g:e≠0->b.more.length=8/\c.more.length=8)(f:iJ e b++j=iJ e c++k):b.key=c.key/\b.more=c.more/\j=k:=by
 unfold iJ at f;simp only[Maj,NN,waj]at f;obtain⟨l,m⟩:=f;have o:=KX l (by have:=h.1;omega) (by have:=i.1;omega);obtain⟨n,a⟩:=List.append_inj m o;refine⟨n,?_⟩;by_cases d:e=0
 .simp only[d,if_true,Maj,ON,waj]at a;have p:=KX a.1 (by have:=h.2;omega) (by have:=i.2;omega);exact List.append_inj a.2 p
 .simp only[d,if_false,ON]at a;exact List.append_inj a (by rw[(g d).1,(g d).2])
theorem NY{h:Nat}:∀{d e:List ej},d.length=e.length->(∀a∈d,Dq a)->(∀a∈e,Dq a)->(h≠0->∀a∈d,a.more.length=8)->(h≠0->∀a∈e,a.more.length=8)->(∀a∈d,a.below=0)->(∀a∈e,a.below=0)->d.flatMap (iJ h)=e.flatMap (iJ h)->d=e
 |[],[],_,_,_,_,_,_,_,_=>rfl
 |[],_::_,g,_,_,_,_,_,_,_=>by simp at g
 |_::_,[],g,_,_,_,_,_,_,_=>by simp at g
 |a::d,i::e,g,s,t,n,o,p,q,r=>by
  rw[JN,JN]at r;obtain⟨l,m,w⟩:=QL (s a (by simp)) (t i (by simp)) (fun f=>⟨n f a (by simp),o f i (by simp)⟩) r;have y:=NY (by simpa using g) (fun c b=>s c (by simp[b])) (fun c b=>t c (by simp[b])) (fun f c b=>n f c (by simp[b])) (fun f c b=>o f c (by simp[b])) (fun c b=>p c (by simp[b])) (fun c b=>q c (by simp[b])) w;have x:a=i:=by
   obtain⟨z,B,j⟩:=a;obtain⟨A,C,k⟩:=i;have u:j=0:=p ⟨z,B,j⟩ (List.mem_cons_self ..);have v:k=0:=q ⟨A,C,k⟩ (List.mem_cons_self ..);simp only at l m;rw[l,m,u,v]
  rw[x,y]
theorem MH{e f:Nat}{d g:List ej}(a:IL e d)(b:IL f g)(c:Gj e d=Gj f g):e=f/\d=g:=by
 unfold Gj at c;simp only[waj]at c;obtain⟨j,k,l⟩:=c;have h:=KX j (by have:=a.lv;omega) (by have:=b.lv;omega);have i:=KX k (by have:=a.len;omega) (by have:=b.len;omega);subst h;exact⟨rfl,NY i a.ok b.ok a.more8 b.more8 a.norm b.norm l⟩
theorem Oj.below{w g:World}{k f:Nat}{e:Option Nat}{h:List Tj}(a:Oj w k e h f)(c:Below w.heap.size w g):Oj g k e h f:=by
 refine⟨?_,a.d8,fun b d=>lj (a.own b d) c,fun b d s q=>(a.nodes b d s q).below c,a.apart,a.foot,a.msb,a.cnt,a.kd⟩;have i:=a.map;cases e with
 |none=>exact i
 |some r=>
  obtain⟨l,m,j,n,o,p⟩:=i;exact⟨l,m,by rw[c.block r (SN.1 j).1];exact j,n,o,p⟩
theorem Oj.more{g:World}{f b c:Nat}{e:Option Nat}{d:List Tj}(a:Oj g f e d b)(i:b<=c):Oj g f e d c:=
 ⟨a.map,a.d8,a.own,a.nodes,a.apart,a.foot,a.msb,fun h j=>WM (a.cnt h j) i,a.kd⟩
theorem Bj.lt{d:World}{c h:Nat}{g:Option Nat}{f:List Tj}(e:Oj d c g f h)(m:c<d.heap.size):∀a,Bj c g f a->a<d.heap.size:=fun a l=>by
 rcases l with rfl|b|⟨i,j,b⟩
 .exact m
 .subst b;obtain⟨n,o,k,_⟩:=e.map;exact(SN.1 k).1
 .exact((e.own i j).lt a b).2
structure py(w:World)(sb:Nat)(mp:Option Nat)(es:List Tj)(level:Nat)(a:Option Addr)(n:Nat)(xs:List Pj)(its:List ej)(bs:dj)(bl:List Nat):Prop where
 sl:Mk w a xs
 n:n=xs.length
 len:its.length=xs.length
 en:∀i (h1:i<xs.length) (h2:i<its.length),ZV w level xs[i] its[i]
 pg:IL level its
 be:jj w bs.a (bl.map Cj)
 ben:bs.n=bl.length
 benil:bs.a=none->bs.cap=0
 bel:bl.length<=200
 brow:∀b∈bl,∃cs,aj w b 142 cs
 kf:∀x∈xs,∀y,x.k.a=some y->¬Bj sb mp es y.block
 bf:∀b∈bl,¬Bj sb mp es b
theorem py.below{w c:World}{m:Nat}{k:Option Nat}{g:List Tj}{j:Nat}{d:Option Addr}{l:Nat}{n:List Pj}{i:List ej}{f:dj}{e:List Nat}(a:py w m k g j d l n i f e)(b:Below w.heap.size w c):py c m k g j d l n i f e:=
 ⟨jj.below_all a.sl b,a.n,a.len,fun t q r=>(a.en t q r).below b,a.pg,a.be.below_all b,a.ben,a.benil,a.bel,fun o s=>by
  obtain⟨p,h⟩:=a.brow o s;exact⟨p,h.below h.lt b⟩,a.kf,a.bf⟩
def Nk(j:World)(c n:Nat)(p s:dj)(l:Option Nat)(d:List Tj)(r:Nat)(t:List Pj)(q:List ej)(k:List Nat)(b:Nd)(g:World):Prop:=
 ∃f e,qq g c p f s/\Oj g c f e (n+1)/\uq g b/\b.level=r/\b.its=q/\b.bl=k/\(∀a,Sq b a->¬Bj c f e a)/\(∀a,Bj c f e a->a<j.heap.size->Bj c l d a)/\bj (Bj c l d) j g/\(∀o∈e,∀h∈o.ns,h=b\/∃i∈d,h∈i.ns)/\(∀a,Sq b a->a<j.heap.size->(∃i∈d,b∈i.ns)\/(∃h∈t,∃m,h.k.a=some m/\m.block=a)\/a∈k)
theorem aX(u W:Nat)(P V:dj)(w:Option Nat)(G:List Tj)(o:Nat)(O:Option Addr)(U X:Nat)(H:List Pj)(k:List ej)(ar:dj)(F:List Nat)(l:World)(bw:qq l u P w V)(bl:Oj l u w G W)(d3:W<=1000000)(v:py l u w G o O U H k ar F):
  CP 137 #[.pointer (some ⟨u,1,none⟩),.agg #[.int .i64 o,.slice O U X],ar.val] l fun r ac=>∃q,r=.returned (.pointer (some ⟨q.b,0,none⟩))/\Nk l u W P V w G o H k F q ac:=by
 have c8:=bw.lt;have d9:H.length<=200:=by have:=v.pg.len;have:=v.len;omega
 have av:Below l.heap.size l (l.alloc (.cells #[.int .i64 o,.slice O U X] 171)):=tO;have b8:=v.below av;have bd:Hd (Calls _ _ _ _ _):=dG o O U X H k _ v.n v.len d9 (by have:=v.pg.lv;omega) v.pg.ok b8.sl b8.en;have af:aj (l.alloc (.cells #[.int .i64 o,.slice O U X] 171)) l.heap.size 171 [.int .i64 o,.slice O U X]:=aj.new l _ _;obtain⟨au,aB⟩:∃au,au=Aj (Gj o k):=⟨_,rfl⟩;have bO:au.length=8:=by rw[aB];rfl
 obtain⟨x,y,z,A,B,C,D,E,rfl⟩:=uj au bO;have bg:Hd (By (Gj o k)=.agg (cO x y z A B C D E)):=by
  unfold Hd;rw[kx,<-aB];rfl
 have cn:Hd ([x,y,z,A,B,C,D,E]=Aj (Gj o k)):=aB;have cm:Hd ((Gj o k).length<=maxLen):=by
  have:=ox o k.length k v.pg.ok;unfold Jq at this;have R:=v.pg.len;unfold Hd maxLen Gj;omega
 clear aB bO;unfold dj.val;go_enter Tryz.func137,Tryz.ntmps137;go_wp2_with fail;refine bd.o.mono ?_;rintro r bb ⟨e,rfl,aC,ax⟩;obtain⟨b9,ah,c7⟩:=rj.sl (a:=e.a) (n:=e.n) (cap:=e.cap) aC;have bA:BS bb e (Gj o k):=⟨b9,ah,c7,fun b m=>(aC.lt b.block (by show(Value.slice e.a e.n e.cap).ownBlock=_;rw[m];rfl)).2⟩;have c9:∀b,e.a=some b->l.heap.size<=b.block:=fun b m=>by
  have:=(aC.lt b.block (by show(Value.slice e.a e.n e.cap).ownBlock=_;rw[m];rfl)).1;simp at this;omega
 have b1:Below l.heap.size l bb:=av.trans (ax.mono av.size);have cs:Hd (e.n=(Gj o k).length):=ah;clear ah;unfold dj.val;go_wp2_with fail;refine(cJ e.a e.n e.cap (Gj o k) bb cs.o cm.o b9).mono ?_;rintro r f ⟨rfl,aA⟩;rw[bg.o];have b2:Below l.heap.size l f:=b1.trans (aA.mono b1.size);have bs:aj f l.heap.size 171 [.int .i64 o,.slice O U X]:=(af.below af.lt ax).below (af.below af.lt ax).lt aA
 -- the digest in its box
 have a5:Below l.heap.size l (f.alloc (.cells (cO x y z A B C D E) 36)):=b2.alloc b2.size _;have S:aj (f.alloc (.cells (cO x y z A B C D E) 36)) f.heap.size 36 [.int .u8 x.toNat,.int .u8 y.toNat,.int .u8 z.toNat,.int .u8 A.toNat,.int .u8 B.toNat,.int .u8 C.toNat,.int .u8 D.toNat,.int .u8 E.toNat]:=aj.new f _ _;have bu:aj (f.alloc (.cells (cO x y z A B C D E) 36)) l.heap.size 171 [.int .i64 o,.slice O U X]:=bs.alloc _;have bB:BS (f.alloc (.cells (cO x y z A B C D E) 36)) e (Gj o k):=(bA.below aA).below tO;go_wp2;generalize f.alloc (.cells (cO x y z A B C D E) 36)=t at*;clear bd bA b9 c7 bs af ax aA b1 b2 av b8 aC bg;have aP:=bl.below a5;have ag:qq t u P w V:=bw.below c8 a5;have ai:=v.below a5;have dC:t.cell? ⟨u,1,none⟩=some (.map w):=ag.cell 1 (by simp);have e1:t.cell? ⟨f.heap.size,0,none⟩=some (.int .u8 x.toNat):=S.cell 0 (by simp);have e2:t.cell? ⟨f.heap.size,1,none⟩=some (.int .u8 y.toNat):=S.cell 1 (by simp);have e3:t.cell? ⟨f.heap.size,2,none⟩=some (.int .u8 z.toNat):=S.cell 2 (by simp);have e4:t.cell? ⟨f.heap.size,3,none⟩=some (.int .u8 A.toNat):=S.cell 3 (by simp);have e5:t.cell? ⟨f.heap.size,4,none⟩=some (.int .u8 B.toNat):=S.cell 4 (by simp);have e6:t.cell? ⟨f.heap.size,5,none⟩=some (.int .u8 C.toNat):=S.cell 5 (by simp);have e7:t.cell? ⟨f.heap.size,6,none⟩=some (.int .u8 D.toNat):=S.cell 6 (by simp);have e8:t.cell? ⟨f.heap.size,7,none⟩=some (.int .u8 E.toNat):=S.cell 7 (by simp);obtain⟨K,a3,bR,c2,c3,dr,b6⟩:=EU aP [x,y,z,A,B,C,D,E] rfl;have db:∀an,(Instr.lookup 125 (.map w) (.agg (cO x y z A B C D E)) false).run Tryz.prog (t.drewN an)=.ok (.slice K.a K.n K.cap) (t.drewN an):=bR;have aO:Hd (K.n=a3.length):=c3;clear bR c3;have bk:Hd (∀(c:World),BB t c->∀d (s:d<a3.length),∃L ab,K.a=some ⟨L,ab,none⟩/\c.cell? ⟨L,ab+d,none⟩=some (.pointer (some ⟨a3[d].b,0,none⟩))/\uq c a3[d]/\(∀am,Sq a3[d] am->¬Bj u w G am)/\∃r∈G,a3[d]∈r.ns):=fun c M d s=>by
  obtain⟨L,ab,d4,a6,aa⟩:=c2 d (by simpa using s);refine⟨L,ab,d4,?_,(b6 _ (bN s)).1.below M,(b6 _ (bN s)).2⟩;rw[M.cell (p:=⟨L,ab+d,none⟩) a6,aa];simp[Cj]
 have dc:K.n<=1000000:=by have:=aO.o;omega
 have dd:(K.n:Int)<=1000000:=by omega
 have bp:=fun(c:World) (M:Below t.heap.size t c) (b:Nd) (m:uq c b)=>xV b.by_ e (Gj b.level b.its) (Gj o k) c m.by_ (bB.below M);have ck:Hd (∀c,BB t c->∀b,uq c b->_):=bp;have br:=fun(c:World) (M:Below t.heap.size t c) (b:Nd) (m:uq c b) (R:b.bl.length<=1000)=>yV b.be ar b.bl F c m.be m.ben (ai.be.below_all M) ai.ben R (by have:=ai.bel;omega) (fun L a6=>by
  rcases fN.1 a6 with s|s
  .obtain⟨ae,J⟩:=m.blrow L s;exact⟨_,ae,J⟩
  .obtain⟨ae,J⟩:=ai.brow L s;exact⟨_,ae,J.below J.lt M⟩)
 have cu:Hd (∀c,BB t c->∀b,uq c b->b.bl.length<=1000->_):=br;have co:Hd (∀(c:World) (b:Nd),BB t c->uq c b->(∀d,Sq b d->¬Bj u w G d)->(∃r∈G,b∈r.ns)->Gj b.level b.its=Gj o k->b.bl=F->Nk l u W P V w G o H k F b c):=fun c b M m aE aD aa a6=>by
  obtain⟨cD,aR⟩:=MH m.pg v.pg aa;exact⟨w,G,ag.below ag.lt M,(aP.below M).more (by omega),m,cD,aR,a6,aE,fun d N _=>N,bj.of_below_all (a5.trans (M.mono a5.size)),fun r d5 i h=>RM ⟨r,d5,h⟩,fun d _ _=>SM aD⟩
 have cl:Hd (∀(c:World) (b:Nd),uq c b->b.bl.length<=1000):=fun c b m=>m.blc;have cj:Hd (∀an,Below t.heap.size t (t.drewN an)):=fun an=>Pz (VM _ _);clear bp br c2 b6 dr;go_quiet (fail);go_wp2
 go_loopw [10,23] (fun _ ba wr=>∃d:Nat,d<=K.n/\ba=.int .i64 d/\Below t.heap.size t wr) (fun _ ba _=>K.n - (intOf ba).toNat)
 case atStart=>exact⟨0,by omega,by simp,cj.o _⟩
 case round=>
  obtain⟨d,N,rfl,I⟩:=hrel;by_cases a7:d<K.n
  .have c4:(d:Int)<K.n:=by omega
   have d7:d<a3.length:=by have:=aO.o;omega
   obtain⟨L,ab,bP,aa,m,aE,aD⟩:=bk.o wr I d d7;obtain⟨dR,dT,dS⟩:=K;simp only at bP c4 a7 N dc dd aO bk db;subst bP;generalize a3[d]=b at*;have dD:wr.cell? ⟨b.b,1,none⟩=some (.slice b.by_.a b.by_.n b.by_.cap):=m.row.cell 1 (by simp[CZ]);have dE:wr.cell? ⟨b.b,10,none⟩=some (.slice b.be.a b.be.n b.be.cap):=by
    obtain⟨cc,cd,aI,ce,cf,cg,ch,ci,h⟩:=uj (Aj (Gj b.level b.its)) rfl;have s:=m.row;rw[Hk b h]at s;exact s.cell 10 (by simp)
   have ap:Hd (uq wr b):=m;have cC:Hd (∀am,Sq b am->¬Bj u w G am):=aE;have cB:Hd (∃r∈G,b∈r.ns):=aD;clear m aE aD;have a8:Hd (Calls _ _ _ _ _):=ck.o wr I b ap.o;have ad:Hd (Calls _ _ _ _ _):=cu.o wr I b ap.o (cl.o wr b ap.o);unfold dj.val at a8 ad;cases al:(Gj b.level b.its==Gj o k)with
   |false=>
    rw[al]at a8;clear al;go_wp2_with (go_at_call 151;refine a8.o.mono ?_;rintro r ao ⟨rfl,a2⟩;obtain rfl:wr=ao:=a2.symm;clear a2);exact⟨⟨d+1,by omega,by go_num,I⟩,by simp[intOf];omega⟩
   |true=>
    have cv:Hd (Gj b.level b.its=Gj o k):=eq_of_beq al;rw[al]at a8;clear al;cases J:(b.bl==F)with
    |false=>
     rw[J]at ad;clear J;go_wp2_with (first|(go_at_call 151;refine a8.o.mono ?_;rintro r ao ⟨rfl,a2⟩;obtain rfl:wr=ao:=a2.symm;clear a2)|(go_at_call 152;refine ad.o.mono ?_;rintro r bc ⟨rfl,dB,rfl⟩));exact⟨⟨d+1,by omega,by go_num,I.trans (Pz (VM _ _))⟩,by simp[intOf];omega⟩
    |true=>
     have cA:Hd (b.bl=F):=eq_of_beq J;rw[J]at ad;clear J;go_wp2_with (first|(go_at_call 151;refine a8.o.mono ?_;rintro r ao ⟨rfl,a2⟩;obtain rfl:wr=ao:=a2.symm;clear a2)|(go_at_call 152;refine ad.o.mono ?_;rintro r bc ⟨rfl,dB,rfl⟩));go_ret;exact⟨b,rfl,co.o _ b (I.trans (Pz (VM _ _))) (ap.o.below (Pz (VM _ _))) cC.o cB.o cv.o cA.o⟩
  .have c4:¬(d:Int)<K.n:=by omega
   have bm:=aP.below I;have ak:=ai.below I;have bC:=bB.below I;have b4:qq wr u P w V:=ag.below ag.lt I;have T:=S.below S.lt I;have bv:=bu.below bu.lt I;have b3:Below l.heap.size l wr:=a5.trans (I.mono a5.size);obtain⟨j,c0,bS,bT,c1⟩:∃j:dj,((H.getLast?.map (fun b=>b.k.val)).getD (.slice none 0 0))=.slice j.a j.n j.cap/\BS wr j (cz k)/\(∀i,j.a=some i->¬Bj u w G i.block)/\(∀i,j.a=some i->∃b∈H,∃i,b.k.a=some i/\j.a=some i):=by
    cases m:H.getLast? with
    |none=>
     have Q:H=[]:=by simpa using m
     have R:k=[]:=Xaj (by rw[v.len,Q];rfl);refine⟨⟨none,0,0⟩,rfl,?_,(fun i h=>by cases h),(fun i h=>by cases h)⟩;rw[R];exact⟨jq.nil _ _,rfl,fun _=>rfl,fun i h=>by cases h⟩
    |some b=>
     have dp:H≠[]:=by intro r;subst r;simp at m
     have dI:=Faj.2 dp;have d8:H[H.length - 1]'(by omega)=b:=by
      rw[ebj,UM (by omega)]at m;exact lN m
     have da:=v.len;have c6:k≠[]:=by intro r;subst r;simp at da;omega
     refine⟨b.k,rfl,?_,fun i h=>v.kf b (List.mem_of_getLast? m) i h,fun i h=>⟨b,List.mem_of_getLast? m,i,h,h⟩⟩;have Q:=(ak.en (H.length - 1) (by omega) (by omega)).key;rw[d8]at Q;rw[WV k c6];have aR:k[k.length - 1]'(by have:=Faj.2 c6;omega)=k[H.length - 1]'(by omega):=by congr 1;omega
     rw[aR];exact Q
   have bi:Hd (Calls _ _ _ _ _):=iW O U X H wr.drew v.n (by omega) ak.sl (fun b m=>by
    obtain⟨du,d6,rfl⟩:=PN m;exact(v.en du d6 (by have:=v.len;omega)).d8)
   rw[c0]at bi;have be:Hd (Calls _ _ _ _ _):=zV ar F wr.drew ak.be v.ben v.benil (by have:=v.bel;omega);have bf:Hd (∀(g:dj) (c:World),jj c g.a (F.map Cj)->g.n=F.length->(∀b,g.a=some b->wr.drew.heap.size<=b.block/\b.block<c.heap.size)->Below wr.drew.heap.size wr.drew c->
     ∃q:Nd,q.b=c.heap.size/\q.level=o/\q.its=k/\q.bl=F/\uq (c.alloc (.cells #[.slice j.a j.n j.cap,.slice e.a e.n e.cap,.int .u8 x.toNat,.int .u8 y.toNat,.int .u8 z.toNat,.int .u8 A.toNat,.int .u8 B.toNat,.int .u8 C.toNat,.int .u8 D.toNat,.int .u8 E.toNat,.slice g.a g.n g.cap] 142)) q/\(∀d,Sq q d->¬Bj u w G d)/\qq (c.alloc (.cells #[.slice j.a j.n j.cap,.slice e.a e.n e.cap,.int .u8 x.toNat,.int .u8 y.toNat,.int .u8 z.toNat,.int .u8 A.toNat,.int .u8 B.toNat,.int .u8 C.toNat,.int .u8 D.toNat,.int .u8 E.toNat,.slice g.a g.n g.cap] 142)) u P w V/\Oj (c.alloc (.cells #[.slice j.a j.n j.cap,.slice e.a e.n e.cap,.int .u8 x.toNat,.int .u8 y.toNat,.int .u8 z.toNat,.int .u8 A.toNat,.int .u8 B.toNat,.int .u8 C.toNat,.int .u8 D.toNat,.int .u8 E.toNat,.slice g.a g.n g.cap] 142)) u w G W/\(∀d,Sq q d->d<l.heap.size->(∃b∈H,∃i,b.k.a=some i/\i.block=d)\/d∈F)/\Below l.heap.size l (c.alloc (.cells #[.slice j.a j.n j.cap,.slice e.a e.n e.cap,.int .u8 x.toNat,.int .u8 y.toNat,.int .u8 z.toNat,.int .u8 A.toNat,.int .u8 B.toNat,.int .u8 C.toNat,.int .u8 D.toNat,.int .u8 E.toNat,.slice g.a g.n g.cap] 142))):=fun g c Q R a4 Y=>by
    have aS:Below wr.heap.size wr c:=⟨Y.os,Y.tape,Y.output,Y.size,Y.block⟩;have a9:Below wr.heap.size wr (c.alloc (.cells #[.slice j.a j.n j.cap,.slice e.a e.n e.cap,.int .u8 x.toNat,.int .u8 y.toNat,.int .u8 z.toNat,.int .u8 A.toNat,.int .u8 B.toNat,.int .u8 C.toNat,.int .u8 D.toNat,.int .u8 E.toNat,.slice g.a g.n g.cap] 142)):=aS.alloc aS.size _;have bo:Below c.heap.size c (c.alloc (.cells #[.slice j.a j.n j.cap,.slice e.a e.n e.cap,.int .u8 x.toNat,.int .u8 y.toNat,.int .u8 z.toNat,.int .u8 A.toNat,.int .u8 B.toNat,.int .u8 C.toNat,.int .u8 D.toNat,.int .u8 E.toNat,.slice g.a g.n g.cap] 142)):=tO;have de:=Bj.lt bl c8;have dP:=b3.size;have dO:=aS.size;refine⟨⟨c.heap.size,j,e,g,o,k,F⟩,rfl,rfl,rfl,rfl,⟨?_,bS.below a9,bC.below a9,Q.below_all bo,R,fun i h=>qN (a4 i h).2 bo.size,v.pg,fun L a6=>by
     obtain⟨ae,J⟩:=ak.brow L a6;exact⟨ae,J.below J.lt a9⟩,by have:=v.bel;simp only;omega⟩,?_,b4.below b4.lt a9,bm.below a9,?_,b3.trans (a9.mono b3.size)⟩
    .have aa:CZ ⟨c.heap.size,j,e,g,o,k,F⟩=[.slice j.a j.n j.cap,.slice e.a e.n e.cap,.int .u8 x.toNat,.int .u8 y.toNat,.int .u8 z.toNat,.int .u8 A.toNat,.int .u8 B.toNat,.int .u8 C.toNat,.int .u8 D.toNat,.int .u8 E.toNat,.slice g.a g.n g.cap]:=Hk _ cn.o.symm;rw[aa];exact aj.new c _ _
    .intro d N b5;have a7:=de d b5;rcases N with s|⟨i,h,s⟩|⟨i,h,s⟩|⟨i,h,s⟩|s
     .simp only at s;omega
     .simp only at h;exact bT i h (by rw[s];exact b5)
     .simp only at h;have:=c9 i h;omega
     .simp only at h;have aT:=(a4 i h).1;have b0:wr.drew.heap.size=wr.heap.size:=rfl;omega
     .exact v.bf d s b5
    .intro d N a7;rcases N with s|⟨i,h,s⟩|⟨i,h,s⟩|⟨i,h,s⟩|s
     .simp only at s;omega
     .simp only at h;obtain⟨b,m,aI,dt,cb⟩:=c1 i h;rw[h]at cb;exact SM ⟨b,m,aI,dt,by rw[<-s,lN cb]⟩
     .simp only at h;have:=c9 i h;omega
     .simp only at h;have aT:=(a4 i h).1;have b0:wr.drew.heap.size=wr.heap.size:=rfl;omega
     .exact RM s
   have bh:Hd (∀(q:Nd) (c:World),uq c q->(∀d,Sq q d->¬Bj u w G d)->qq c u P w V->Oj c u w G W->q.level=o->q.its=k->q.bl=F->(∀d,Sq q d->d<l.heap.size->(∃b∈H,∃i,b.k.a=some i/\i.block=d)\/d∈F)->BB l c->CP 155 #[.pointer (some ⟨u,1,none⟩),.pointer (some ⟨q.b,0,none⟩)] c fun r ac=>r=.returned (.tuple #[])/\Nk l u W P V w G o H k F q ac):=fun q c Q R a4 Y aT b0 d2 b7 bn=>by
    refine(LH u W P V w G q c a4 Y Q R d3).mono ?_;rintro r ac ⟨rfl,dA,cE,cI,cP,cR,cS,cT,d0,d1⟩;exact⟨rfl,dA,cE,cI,cP,cR,aT,b0,d2,cS,fun d N a7=>cT d N (qN a7 bn.size),(bj.of_below_all bn).trans d0,d1,fun d N a7=>RM (b7 d N a7)⟩
   have cr:Hd (∀(g:dj) (c:World),jj c g.a (F.map Cj)->g.n=F.length->(∀b,g.a=some b->wr.drew.heap.size<=b.block/\b.block<c.heap.size)->Below wr.drew.heap.size wr.drew c->
     ∃q:Nd,Hd (q.b=c.heap.size)/\Hd (CP 155 #[.pointer (some ⟨u,1,none⟩),.pointer (some ⟨c.heap.size,0,none⟩)] (c.alloc (.cells #[.slice j.a j.n j.cap,.slice e.a e.n e.cap,.int .u8 x.toNat,.int .u8 y.toNat,.int .u8 z.toNat,.int .u8 A.toNat,.int .u8 B.toNat,.int .u8 C.toNat,.int .u8 D.toNat,.int .u8 E.toNat,.slice g.a g.n g.cap] 142)) fun r ac=>r=.returned (.tuple #[])/\Nk l u W P V w G o H k F q ac)):=fun g c Q R a4 Y=>by
    obtain⟨q,c5,df,ah,dg,dh,di,dl,dm,b7,dn⟩:=bf.o g c Q R a4 Y;refine⟨q,c5,?_⟩;have:=bh.o q _ dh di dl dm df ah dg b7 dn;rw[c5]at this;exact this
   clear bf bh;have a1:Hd (f.heap.size<wr.heap.size):=T.lt;have cc:wr.cell? ⟨f.heap.size,0,none⟩=some (.int .u8 x.toNat):=T.cell 0 (by simp);have cd:wr.cell? ⟨f.heap.size,1,none⟩=some (.int .u8 y.toNat):=T.cell 1 (by simp);have aI:wr.cell? ⟨f.heap.size,2,none⟩=some (.int .u8 z.toNat):=T.cell 2 (by simp);have ce:wr.cell? ⟨f.heap.size,3,none⟩=some (.int .u8 A.toNat):=T.cell 3 (by simp);have cf:wr.cell? ⟨f.heap.size,4,none⟩=some (.int .u8 B.toNat):=T.cell 4 (by simp);have cg:wr.cell? ⟨f.heap.size,5,none⟩=some (.int .u8 C.toNat):=T.cell 5 (by simp);have ch:wr.cell? ⟨f.heap.size,6,none⟩=some (.int .u8 D.toNat):=T.cell 6 (by simp);have ci:wr.cell? ⟨f.heap.size,7,none⟩=some (.int .u8 E.toNat):=T.cell 7 (by simp);have e0:wr.cell? ⟨l.heap.size,1,none⟩=some (.slice O U X):=bv.cell 1 (by simp);clear c0 bS bT c1 bm ak bC b4 T bv;go_wp2;unfold dj.val at be
   go_region_with (first
    |(go_at_call 153;refine bi.o.mono ?_;rintro r bc ⟨rfl,ca⟩;obtain rfl:wr.drew=bc:=ca.symm;clear ca)
    |(go_at_call 154;refine be.o.mono ?_;rintro r a0 ⟨g,rfl,bD,bE,bI,Z⟩;obtain⟨q,ct,cp⟩:=cr.o g a0 bD bE bI Z;clear bD bE bI;have ea:a0.cell? ⟨f.heap.size,0,none⟩=some (.int .u8 x.toNat):=(by rw[Z.cell (p:=⟨f.heap.size,0,none⟩) a1.o];exact cc);have eb:a0.cell? ⟨f.heap.size,1,none⟩=some (.int .u8 y.toNat):=(by rw[Z.cell (p:=⟨f.heap.size,1,none⟩) a1.o];exact cd);have ec:a0.cell? ⟨f.heap.size,2,none⟩=some (.int .u8 z.toNat):=(by rw[Z.cell (p:=⟨f.heap.size,2,none⟩) a1.o];exact aI);have ed:a0.cell? ⟨f.heap.size,3,none⟩=some (.int .u8 A.toNat):=(by rw[Z.cell (p:=⟨f.heap.size,3,none⟩) a1.o];exact ce);have ee:a0.cell? ⟨f.heap.size,4,none⟩=some (.int .u8 B.toNat):=(by rw[Z.cell (p:=⟨f.heap.size,4,none⟩) a1.o];exact cf);have ef:a0.cell? ⟨f.heap.size,5,none⟩=some (.int .u8 C.toNat):=(by rw[Z.cell (p:=⟨f.heap.size,5,none⟩) a1.o];exact cg);have eg:a0.cell? ⟨f.heap.size,6,none⟩=some (.int .u8 D.toNat):=(by rw[Z.cell (p:=⟨f.heap.size,6,none⟩) a1.o];exact ch);have eh:a0.cell? ⟨f.heap.size,7,none⟩=some (.int .u8 E.toNat):=(by rw[Z.cell (p:=⟨f.heap.size,7,none⟩) a1.o];exact ci)))
   all_goals
    go_wp2_with (go_at_call 155;refine cp.o.mono ?_;rintro r e9 ⟨rfl,ds⟩);go_ret;exact⟨q,by rw[ct.o];rfl,ds⟩
def Ej(c:Nat)(b:List ej):Nat->List (Nat×Nat)×Nat
 |0=>([],0)
 |a+1=>if a+1=b.length\/Sx c ((b[a]?.map (·.key)).getD [])=true then((Ej c b a).1++[((Ej c b a).2,a+1 - (Ej c b a).2)],a+1)else Ej c b a
def Tz(b:Nat)(a:List ej):List (Nat×Nat):=(Ej b a a.length).1
theorem Oy(c:Nat)(b:List ej):∀a,(Ej c b a).2<=a/\(Ej c b a).1.length<=a
 |0=>by simp[Ej]
 |a+1=>by
  have:=Oy c b a;unfold Ej
  split
  .simp;omega
  .omega
def Uq(c:Option Addr)(b d:Nat)(a:Nat×Nat):Value:=.slice (Fz c b a.1 d) a.2 (b - a.1)
theorem kQ(b:Option Addr)(c f:Nat)(e:List (Nat×Nat)):∀a∈e.map (Uq b c f),a.oneCell'=true:=fun a d=>by
 obtain⟨g,_,rfl⟩:=vN.1 d;rfl
theorem Tryz.infoEnts:(Tryz.prog.info? 67).map (fun a=>(a.zero,a.size,a.bytes))=some (some (.slice none 0 0),1,24):=by kernel_rfl
theorem Tryz.infoNds:(Tryz.prog.info? 128).map (fun a=>(a.zero,a.size,a.bytes))=some (some (.slice none 0 0),1,24):=by kernel_rfl
theorem Tryz.sizeNdP:(Tryz.prog.info? 138).map (·.size)=some 1:=by kernel_rfl
theorem jW(c:Nat)(B:Option Addr)(h f:Nat)(x:List Pj)(b:List ej)(i:World)(X:h=b.length)(b1:b.length=x.length)(aO:b.length<=200)(ah:c<=200)(aa:h<=f)(ab:f<=maxLen)(ai:∀L∈b,Dq L)(al:Mk i B x)(U:∀z (bl:z<x.length) (bm:z<b.length),cw i x[z] b[z]):
  CP 138 #[.int .i64 c,.slice B h f,.func (.func 139) #[] #[]] i fun t A=>∃e:dj,t=.returned e.val/\A.ownsRow i.heap.size 67 1 e.val (Tz c b).length ((Tz c b).map (Uq B f 10))/\Below i.heap.size i A:=by
 have aC:Hd (∀(wr:World),BB i wr->∀a (D:a<h) (ae:a<b.length),∃g e,∃m n:dj,B=some ⟨g,e,none⟩/\wr.rangeAt g (e+a*10) [.slice m.a m.n m.cap,.slice n.a n.n n.cap,.int .u8 0,.int .u8 0,.int .u8 0,.int .u8 0,.int .u8 0,.int .u8 0,.int .u8 0,.int .u8 0]/\
   ∃w:dj,(∀l,BB wr l->CP 139 #[.agg (eO m n)] l fun t A=>t=.returned w.val/\Below l.heap.size l A)/\(∀l,BB wr l->BS l w b[a].key)):=fun wr q a D ae=>by
  obtain⟨g,e,aP,aS,r⟩:=Mk.range al (fun L b5=>by
   obtain⟨z,b0,rfl⟩:=PN b5;rw[(U z b0 (by omega)).dig];rfl) a (by omega)
  have ac:=U a (by omega) ae;refine⟨g,e,(x[a]'(by omega)).k,(x[a]'(by omega)).v,aP,fun am b8 b4=>?_,(x[a]'(by omega)).k,fun l a7=>?_,fun l a7=>ac.key.below (q.trans (a7.mono q.size))⟩
  .rw[q.cell (p:=⟨g,e+a*10+am,none⟩) aS];refine r am b8 ?_;unfold qv;rw[ac.dig];exact b4
  .exact KY _ _ l
 have aB:Hd (∀L∈b,Dq L):=ai;have P:Hd (h=b.length):=X;have ao:Hd (∀a (D:a<b.length),Ej c b (a+1)=if a+1=b.length\/Sx c b[a].key=true then((Ej c b a).1++[((Ej c b a).2,a+1 - (Ej c b a).2)],a+1)else Ej c b a):=fun a D=>by
  rw[Ej,UM D];rfl
 have ar:Hd (Tz c b=(Ej c b h).1):=by unfold Hd;rw[X];rfl
 have bs:h<=200:=by omega
 have bu:(h:Int)<=200:=by omega
 have br:(c:Int)<=200:=by omega
 unfold maxLen at ab;have bn:(h:Int)<=f:=by omega
 have bo:(f:Int)<=9223372036854775807:=by omega
 have ax:Hd (c<=200):=ah;have ap:Hd (h<=f):=aa;clear al U ai X b1 aO ah aa ab;go_enter Tryz.func138,Tryz.ntmps138;go_wp2
 go_loopw [7,8,9,10,13] (fun b6 b7 _ _ a0 wr=>∃(a d:Nat) (e:dj),a<=h/\a0=.int .i64 a/\b7=.int .i64 d/\d<=a/\Hd (d=(Ej c b a).2)/\b6=e.val/\Hd (wr.ownsRow i.heap.size 67 1 e.val (Ej c b a).1.length ((Ej c b a).1.map (Uq B f 10)))/\Below i.heap.size i wr) (fun _ _ _ _ a0 _=>h - (intOf a0).toNat)
 case atStart=>exact⟨0,0,⟨none,0,0⟩,by omega,by simp,by simp,by omega,rfl,rfl,iN _ _ _ _,VM _ _⟩
 case round=>
  obtain⟨a,d,o,D,rfl,rfl,bv,Q,rfl,H,q⟩:=hrel;by_cases b2:a<h
  .have bp:(a:Int)<h:=by omega
   have W:a<b.length:=by have:=P.o;omega
   obtain⟨g,e,m,n,rfl,r,w,af,a9⟩:=aC.o wr q a b2 W;have au:Hd (∀l,BB wr l->_):=af;have an:Hd (∀l,BB wr l->BS l w b[a].key):=a9;clear af a9;have aI:=r 0 _ rfl;have bc:=r 1 _ rfl;have bd:=r 2 _ rfl;have I:=r 3 _ rfl;have be:=r 4 _ rfl;have bf:=r 5 _ rfl;have bg:=r 6 _ rfl;have bh:=r 7 _ rfl;have bi:=r 8 _ rfl;have bk:=r 9 _ rfl;clear r;simp only[eaj]at aI;have av:Hd (b[a].key.length<=200):=by have:=(aB.o b[a] (bN W)).1;unfold Hd;omega
   have O:Hd (Ej c b (a+1)=if a+1=b.length\/Sx c b[a].key=true then((Ej c b a).1++[((Ej c b a).2,a+1 - (Ej c b a).2)],a+1)else Ej c b a):=ao.o a W;have G:Hd ((Ej c b a).1.length<=200):=by have:=(Oy c b a).2;unfold Hd;omega
   have a5:Hd (d<=a+1):=by unfold Hd;omega
   have a3:Hd (a+1<=f):=by have:=ap.o;unfold Hd;omega
   unfold dj.val;have ad:(a:Int)+1=((a+1:Nat):Int):=by omega
   have bb:Hd ((a:Int)+1=((a+1:Nat):Int)):=ad;clear ad;by_cases ag:a+1=h
   .have aT:((a:Int)==(h:Int) - 1)=true:=by simp;omega
    have u:Hd (Ej c b (a+1)=((Ej c b a).1++[(d,a+1 - d)],a+1)):=by
     unfold Hd;rw[O.o,if_pos (SM (by have:=P.o;omega)),<-Q.o]
    clear ag;have M:Hd (BB i ((wr.alloc (.cells (eO m n) 74)).alloc (.cells #[Uq (some ⟨g,e,none⟩) f 10 (d,a+1 - d)] 67))):=(q.alloc q.size _).alloc (by have:=q.size;simp;omega) _;have a4:Hd (((wr.alloc (.cells (eO m n) 74)).alloc (.cells #[Uq (some ⟨g,e,none⟩) f 10 (d,a+1 - d)] 67)).ownsRow i.heap.size 67 1 (.slice o.a o.n o.cap) (Ej c b a).1.length ((Ej c b a).1.map (Uq (some ⟨g,e,none⟩) f 10))):=(H.o.alloc _).alloc _;have aD:Hd (jj ((wr.alloc (.cells (eO m n) 74)).alloc (.cells #[Uq (some ⟨g,e,none⟩) f 10 (d,a+1 - d)] 67)) (some ⟨wr.heap.size+1,0,none⟩) [Uq (some ⟨g,e,none⟩) f 10 (d,a+1 - d)]):=by
     have:=jj.alloc_new (wr.alloc (.cells (eO m n) 74)) [Uq (some ⟨g,e,none⟩) f 10 (d,a+1 - d)] 67;unfold Hd;simpa using this
    go_wp2_with (first
     |(refine Zw (by rfl) 67 74 (.tmp 31) (.tmp 32) (.tmp 34) (by rfl) (some ⟨g,e,none⟩) h f d (a+1) 10 (by rfl) (by rfl) (by rfl) Tryz.underlying67 Tryz.sizeEntryB a5.o a3.o ?_)
     |(at_builtin;refine rq (by rfl) (.tmp 30) (.tmp 36) 181 (by rfl) i.heap.size 67 _ 1 24 Tryz.underlying181 Tryz.infoEnts rfl (by decide) (.slice o.a o.n o.cap) (Ej c b a).1.length ((Ej c b a).1.map (Uq (some ⟨g,e,none⟩) f 10)) (by rfl) a4.o (some ⟨wr.heap.size+1,0,none⟩) 1 1 [Uq (some ⟨g,e,none⟩) f 10 (d,a+1 - d)] (by rfl) rfl aD.o (fun s=>by cases s) (kQ _ _ _ [(d,a+1 - d)]) (by have:=G.o;unfold maxLen;omega) (by have:=G.o;omega) M.o.size ?_;intro b9 ba E V aR;obtain⟨R,I,Z,_⟩:=Nj E;subst Z))
    refine⟨⟨a+1,a+1,⟨R,_,I⟩,by omega,by go_num,by go_num,by omega,by unfold Hd;rw[u.o],rfl,?_,?_⟩,by simp[intOf];omega⟩
    .unfold Hd;rw[u.o,XM,rN];exact E
    .exact M.o.trans (V.below M.o.size (fun a1 Y=>(a4.o.lt a1 Y).1))
   .have aT:((a:Int)==(h:Int) - 1)=false:=by simp;omega
    have aA:Hd (¬a+1=b.length):=by have:=P.o;unfold Hd;omega
    have v:Below wr.heap.size wr (wr.alloc (.cells (eO m n) 74)):=tO;have N:Hd (Calls _ _ _ _ _):=au.o (wr.alloc (.cells (eO m n) 74)) v;have F:Hd (∀(j:World),Below (wr.alloc (.cells (eO m n) 74)).heap.size (wr.alloc (.cells (eO m n) 74)) j->CP 156 #[.int .i64 c,.slice w.a w.n w.cap] j fun t A=>t=.returned (.bool (Sx c b[a].key))/\Below j.heap.size j A):=fun j J=>JY c w b[a].key j ax.o (an.o j (v.trans (J.mono v.size))) av.o;have a2:Hd (∀(j k:World),Below (wr.alloc (.cells (eO m n) 74)).heap.size (wr.alloc (.cells (eO m n) 74)) j->BB j k->Below wr.heap.size wr k):=fun j k J K=>(v.trans (J.mono v.size)).trans (K.mono (v.trans (J.mono v.size)).size);unfold dj.val at N;clear ag v;cases y:Sx c b[a].key with
    |true=>
     have u:Hd (Ej c b (a+1)=((Ej c b a).1++[(d,a+1 - d)],a+1)):=by
      unfold Hd;rw[O.o,if_pos (RM y),<-Q.o]
     rw[y]at F;clear y;have aE:Hd (∀k:World,BB wr k->(k.alloc (.cells #[Uq (some ⟨g,e,none⟩) f 10 (d,a+1 - d)] 67)).ownsRow i.heap.size 67 1 (.slice o.a o.n o.cap) (Ej c b a).1.length ((Ej c b a).1.map (Uq (some ⟨g,e,none⟩) f 10))/\jj (k.alloc (.cells #[Uq (some ⟨g,e,none⟩) f 10 (d,a+1 - d)] 67)) (some ⟨k.heap.size,0,none⟩) [Uq (some ⟨g,e,none⟩) f 10 (d,a+1 - d)]/\Below i.heap.size i (k.alloc (.cells #[Uq (some ⟨g,e,none⟩) f 10 (d,a+1 - d)] 67))):=fun k K=>by
      have a6:=q.trans (K.mono q.size);exact⟨(lj H.o K).alloc _,jj.alloc_new k _ _,a6.alloc a6.size _⟩
     go_wp2_with (first
      |(go_at_call 139;refine N.o.mono ?_;rintro t j ⟨rfl,C⟩)
      |(go_at_call 156;refine(F.o j C).mono ?_;rintro t k ⟨rfl,S⟩;obtain⟨ak,b3,T⟩:=aE.o k (a2.o j k C S))
      |(refine Zw (by rfl) 67 74 (.tmp 31) (.tmp 32) (.tmp 34) (by rfl) (some ⟨g,e,none⟩) h f d (a+1) 10 (by rfl) (by rfl) (by rfl) Tryz.underlying67 Tryz.sizeEntryB a5.o a3.o ?_)
      |(at_builtin;refine rq (by rfl) (.tmp 30) (.tmp 36) 181 (by rfl) i.heap.size 67 _ 1 24 Tryz.underlying181 Tryz.infoEnts rfl (by decide) (.slice o.a o.n o.cap) (Ej c b a).1.length ((Ej c b a).1.map (Uq (some ⟨g,e,none⟩) f 10)) (by rfl) ak (some ⟨k.heap.size,0,none⟩) 1 1 [Uq (some ⟨g,e,none⟩) f 10 (d,a+1 - d)] (by rfl) rfl b3 (fun s=>by cases s) (kQ _ _ _ [(d,a+1 - d)]) (by have:=G.o;unfold maxLen;omega) (by have:=G.o;omega) T.size ?_;intro b9 ba E V aR;obtain⟨R,I,Z,_⟩:=Nj E;subst Z))
     refine⟨⟨a+1,a+1,⟨R,_,I⟩,by omega,by go_num,by go_num,by omega,by unfold Hd;rw[u.o],rfl,?_,?_⟩,by simp[intOf];omega⟩
     .unfold Hd;rw[u.o,XM,rN];exact E
     .exact T.trans (V.below T.size (fun a1 Y=>(ak.lt a1 Y).1))
    |false=>
     have u:Hd (Ej c b (a+1)=Ej c b a):=by
      unfold Hd;rw[O.o,if_neg (fun s=>by rcases s with s|s;exact aA.o s;rw[y]at s;cases s)]
     rw[y]at F;clear y;go_wp2_with (first
      |(go_at_call 139;refine N.o.mono ?_;rintro t j ⟨rfl,C⟩)
      |(go_at_call 156;refine(F.o j C).mono ?_;rintro t k ⟨rfl,S⟩))
     have a8:=a2.o j k C S;refine⟨⟨a+1,d,o,by omega,by go_num,by simp,by omega,by unfold Hd;rw[u.o];exact Q.o,rfl,?_,q.trans (a8.mono q.size)⟩,by simp[intOf];omega⟩;unfold Hd;rw[u.o];exact lj H.o a8
  .obtain rfl:a=h:=by omega
   unfold dj.val;go_wp2;go_ret;exact⟨o,rfl,by rw[ar.o];exact H.o,q⟩
theorem kW(c:Nat)(x:Option Addr)(h f:Nat)(u:List Nat)(b:List ej)(i:World)(X:h=b.length)(aS:b.length=u.length)(aE:b.length<=200)(ah:c<=200)(aa:h<=f)(ab:f<=maxLen)(ai:∀a3∈b,Dq a3)(al:jj i x (u.map Cj))(ac:∀B (b7:B<u.length) (b8:B<b.length),∃C:dj,i.cell? ⟨u[B],0,none⟩=some C.val/\u[B]<i.heap.size/\BS i C b[B].key):
  CP 140 #[.int .i64 c,.slice x h f,.func (.func 141) #[] #[]] i fun q w=>∃e:dj,q=.returned e.val/\w.ownsRow i.heap.size 128 1 e.val (Tz c b).length ((Tz c b).map (Uq x f 1))/\Below i.heap.size i w:=by
 have aB:Hd (∀(wr:World),BB i wr->∀a (z:a<h) (ae:a<b.length),∃g e a1,x=some ⟨g,e,none⟩/\wr.cell? ⟨g,e+a,none⟩=some (.pointer (some ⟨a1,0,none⟩))/\
   ∃t:dj,(∀l,BB wr l->CP 141 #[.pointer (some ⟨a1,0,none⟩)] l fun q w=>q=.returned t.val/\Below l.heap.size l w)/\(∀l,BB wr l->BS l t b[a].key)):=fun wr m a z ae=>by
  obtain⟨g,e,aI,aP,T⟩:=jj.ptr al a (by omega);obtain⟨C,aT,W,I⟩:=ac a (by omega) ae;refine⟨g,e,u[a]'(by omega),aI,?_,C,fun l Q=>?_,fun l Q=>I.below (m.trans (Q.mono m.size))⟩
  .rw[m.cell (p:=⟨g,e+a,none⟩) aP];exact T
  .refine gW _ C l ?_;rw[(m.trans (Q.mono m.size)).cell (p:=⟨u[a]'(by omega),0,none⟩) W];exact aT
 have aA:Hd (∀a3∈b,Dq a3):=ai;have M:Hd (h=b.length):=X;have an:Hd (∀a (z:a<b.length),Ej c b (a+1)=if a+1=b.length\/Sx c b[a].key=true then((Ej c b a).1++[((Ej c b a).2,a+1 - (Ej c b a).2)],a+1)else Ej c b a):=fun a z=>by
  rw[Ej,UM z];rfl
 have ap:Hd (Tz c b=(Ej c b h).1):=by unfold Hd;rw[X];rfl
 have bd:h<=200:=by omega
 have be:(h:Int)<=200:=by omega
 have bc:(c:Int)<=200:=by omega
 unfold maxLen at ab;have b9:(h:Int)<=f:=by omega
 have ba:(f:Int)<=9223372036854775807:=by omega
 have av:Hd (c<=200):=ah;have ao:Hd (h<=f):=aa;clear al ac ai X aS aE ah aa ab;go_enter Tryz.func140,Tryz.ntmps140;go_wp2
 go_loopw [7,8,9,10,13] (fun b1 b2 _ _ a0 wr=>∃(a d:Nat) (e:dj),a<=h/\a0=.int .i64 a/\b2=.int .i64 d/\d<=a/\Hd (d=(Ej c b a).2)/\b1=e.val/\Hd (wr.ownsRow i.heap.size 128 1 e.val (Ej c b a).1.length ((Ej c b a).1.map (Uq x f 1)))/\Below i.heap.size i wr) (fun _ _ _ _ a0 _=>h - (intOf a0).toNat)
 case atStart=>exact⟨0,0,⟨none,0,0⟩,by omega,by simp,by simp,by omega,rfl,rfl,iN _ _ _ _,VM _ _⟩
 case round=>
  obtain⟨a,d,n,z,rfl,rfl,bf,N,rfl,F,m⟩:=hrel;by_cases W:a<h
  .have bb:(a:Int)<h:=by omega
   have V:a<b.length:=by have:=M.o;omega
   obtain⟨g,e,a1,rfl,T,t,af,I⟩:=aB.o wr m a W V;have ar:Hd (∀l,BB wr l->_):=af;have am:Hd (∀l,BB wr l->BS l t b[a].key):=I;clear af I;have b6:=T;have au:Hd (b[a].key.length<=200):=by have:=(aA.o b[a] (bN V)).1;unfold Hd;omega
   have L:Hd (Ej c b (a+1)=if a+1=b.length\/Sx c b[a].key=true then((Ej c b a).1++[((Ej c b a).2,a+1 - (Ej c b a).2)],a+1)else Ej c b a):=an.o a V;have E:Hd ((Ej c b a).1.length<=200):=by have:=(Oy c b a).2;unfold Hd;omega
   have a7:Hd (d<=a+1):=by unfold Hd;omega
   have a5:Hd (a+1<=f):=by have:=ao.o;unfold Hd;omega
   unfold dj.val;have ad:(a:Int)+1=((a+1:Nat):Int):=by omega
   have b5:Hd ((a:Int)+1=((a+1:Nat):Int)):=ad;clear ad;by_cases ag:a+1=h
   .have aR:((a:Int)==(h:Int) - 1)=true:=by simp;omega
    have r:Hd (Ej c b (a+1)=((Ej c b a).1++[(d,a+1 - d)],a+1)):=by
     unfold Hd;rw[L.o,if_pos (SM (by have:=M.o;omega)),<-N.o]
    clear ag;have J:Hd (BB i (wr.alloc (.cells #[Uq (some ⟨g,e,none⟩) f 1 (d,a+1 - d)] 128))):=m.alloc m.size _;have a6:Hd ((wr.alloc (.cells #[Uq (some ⟨g,e,none⟩) f 1 (d,a+1 - d)] 128)).ownsRow i.heap.size 128 1 (.slice n.a n.n n.cap) (Ej c b a).1.length ((Ej c b a).1.map (Uq (some ⟨g,e,none⟩) f 1))):=F.o.alloc _;have aC:Hd (jj (wr.alloc (.cells #[Uq (some ⟨g,e,none⟩) f 1 (d,a+1 - d)] 128)) (some ⟨wr.heap.size,0,none⟩) [Uq (some ⟨g,e,none⟩) f 1 (d,a+1 - d)]):=by
     have:=jj.alloc_new wr [Uq (some ⟨g,e,none⟩) f 1 (d,a+1 - d)] 128;unfold Hd;simpa using this
    go_wp2_with (first
     |(refine Zw (by rfl) 128 138 (.tmp 31) (.tmp 32) (.tmp 34) (by rfl) (some ⟨g,e,none⟩) h f d (a+1) 1 (by rfl) (by rfl) (by rfl) Tryz.underlying128 Tryz.sizeNdP a7.o a5.o ?_)
     |(at_builtin;refine rq (by rfl) (.tmp 30) (.tmp 36) 186 (by rfl) i.heap.size 128 _ 1 24 Tryz.underlying186 Tryz.infoNds rfl (by decide) (.slice n.a n.n n.cap) (Ej c b a).1.length ((Ej c b a).1.map (Uq (some ⟨g,e,none⟩) f 1)) (by rfl) a6.o (some ⟨wr.heap.size,0,none⟩) 1 1 [Uq (some ⟨g,e,none⟩) f 1 (d,a+1 - d)] (by rfl) rfl aC.o (fun o=>by cases o) (kQ _ _ _ [(d,a+1 - d)]) (by have:=E.o;unfold maxLen;omega) (by have:=E.o;omega) J.o.size ?_;intro b3 b4 A U aO;obtain⟨O,P,Z,_⟩:=Nj A;subst Z))
    refine⟨⟨a+1,a+1,⟨O,_,P⟩,by omega,by go_num,by go_num,by omega,by unfold Hd;rw[r.o],rfl,?_,?_⟩,by simp[intOf];omega⟩
    .unfold Hd;rw[r.o,XM,rN];exact A
    .exact J.o.trans (U.below J.o.size (fun a2 Y=>(a6.o.lt a2 Y).1))
   .have aR:((a:Int)==(h:Int) - 1)=false:=by simp;omega
    have ax:Hd (¬a+1=b.length):=by have:=M.o;unfold Hd;omega
    have s:Below wr.heap.size wr (wr):=VM _ _;have K:Hd (Calls _ _ _ _ _):=ar.o (wr) s;have D:Hd (∀(j:World),Below (wr).heap.size (wr) j->CP 156 #[.int .i64 c,.slice t.a t.n t.cap] j fun q w=>q=.returned (.bool (Sx c b[a].key))/\Below j.heap.size j w):=fun j G=>JY c t b[a].key j av.o (am.o j (s.trans (G.mono s.size))) au.o;have a4:Hd (∀(j k:World),Below (wr).heap.size (wr) j->BB j k->Below wr.heap.size wr k):=fun j k G H=>(s.trans (G.mono s.size)).trans (H.mono (s.trans (G.mono s.size)).size);unfold dj.val at K;clear ag s;cases v:Sx c b[a].key with
    |true=>
     have r:Hd (Ej c b (a+1)=((Ej c b a).1++[(d,a+1 - d)],a+1)):=by
      unfold Hd;rw[L.o,if_pos (RM v),<-N.o]
     rw[v]at D;clear v;have aD:Hd (∀k:World,BB wr k->(k.alloc (.cells #[Uq (some ⟨g,e,none⟩) f 1 (d,a+1 - d)] 128)).ownsRow i.heap.size 128 1 (.slice n.a n.n n.cap) (Ej c b a).1.length ((Ej c b a).1.map (Uq (some ⟨g,e,none⟩) f 1))/\jj (k.alloc (.cells #[Uq (some ⟨g,e,none⟩) f 1 (d,a+1 - d)] 128)) (some ⟨k.heap.size,0,none⟩) [Uq (some ⟨g,e,none⟩) f 1 (d,a+1 - d)]/\Below i.heap.size i (k.alloc (.cells #[Uq (some ⟨g,e,none⟩) f 1 (d,a+1 - d)] 128))):=fun k H=>by
      have a8:=m.trans (H.mono m.size);exact⟨(lj F.o H).alloc _,jj.alloc_new k _ _,a8.alloc a8.size _⟩
     go_wp2_with (first
      |(go_at_call 141;refine K.o.mono ?_;rintro q j ⟨rfl,y⟩)
      |(go_at_call 156;refine(D.o j y).mono ?_;rintro q k ⟨rfl,R⟩;obtain⟨ak,b0,S⟩:=aD.o k (a4.o j k y R))
      |(refine Zw (by rfl) 128 138 (.tmp 31) (.tmp 32) (.tmp 34) (by rfl) (some ⟨g,e,none⟩) h f d (a+1) 1 (by rfl) (by rfl) (by rfl) Tryz.underlying128 Tryz.sizeNdP a7.o a5.o ?_)
      |(at_builtin;refine rq (by rfl) (.tmp 30) (.tmp 36) 186 (by rfl) i.heap.size 128 _ 1 24 Tryz.underlying186 Tryz.infoNds rfl (by decide) (.slice n.a n.n n.cap) (Ej c b a).1.length ((Ej c b a).1.map (Uq (some ⟨g,e,none⟩) f 1)) (by rfl) ak (some ⟨k.heap.size,0,none⟩) 1 1 [Uq (some ⟨g,e,none⟩) f 1 (d,a+1 - d)] (by rfl) rfl b0 (fun o=>by cases o) (kQ _ _ _ [(d,a+1 - d)]) (by have:=E.o;unfold maxLen;omega) (by have:=E.o;omega) S.size ?_;intro b3 b4 A U aO;obtain⟨O,P,Z,_⟩:=Nj A;subst Z))
     refine⟨⟨a+1,a+1,⟨O,_,P⟩,by omega,by go_num,by go_num,by omega,by unfold Hd;rw[r.o],rfl,?_,?_⟩,by simp[intOf];omega⟩
     .unfold Hd;rw[r.o,XM,rN];exact A
     .exact S.trans (U.below S.size (fun a2 Y=>(ak.lt a2 Y).1))
    |false=>
     have r:Hd (Ej c b (a+1)=Ej c b a):=by
      unfold Hd;rw[L.o,if_neg (fun o=>by rcases o with o|o;exact ax.o o;rw[v]at o;cases o)]
     rw[v]at D;clear v;go_wp2_with (first
      |(go_at_call 141;refine K.o.mono ?_;rintro q j ⟨rfl,y⟩)
      |(go_at_call 156;refine(D.o j y).mono ?_;rintro q k ⟨rfl,R⟩))
     have a9:=a4.o j k y R;refine⟨⟨a+1,d,n,by omega,by go_num,by simp,by omega,by unfold Hd;rw[r.o];exact N.o,rfl,?_,m.trans (a9.mono m.size)⟩,by simp[intOf];omega⟩;unfold Hd;rw[r.o];exact lj F.o a9
  .obtain rfl:a=h:=by omega
   unfold dj.val;go_wp2;go_ret;exact⟨n,rfl,by rw[ap.o];exact F.o,m⟩
end Go.Proofs.YtekegfbjbainhaaGreat
