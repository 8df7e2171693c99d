
import Derived.Test.YtekegfbjbainhaaGreatKJoin7
import Derived.Deep.RegionLaw
set_option maxRecDepth 100000
set_option maxHeartbeats 4000000
set_option linter.unusedVariables false
set_option linter.unusedSimpArgs false
namespace Go.Proofs.YtekegfbjbainhaaGreat
open Go.RowKit
theorem fw(b:World)(a:Option Nat):(binOp .eql 125 (.map a) (.map none)).run Tryz.prog b=.ok (.bool a.isNone) b:=by
 have d:∀c:Nat,(Op.equalIn (c+1) 125 (.map a) (.map none)).run Tryz.prog b=.ok a.isNone b:=fun c=>by
  cases a<;>simp[Op.equalIn,run_underlying Tryz.undMap]
 simp only[binOp];simp[Op.equal,Op.maxDepth,d 9999]
theorem jQ{n m C r:World}{d c D q:Nat}{u B:dj}{i e:List Tj}{b:Tj}{h:Nd}{s':dj}{L M:Array MapEntry}{N O:Nat}(y:qq n d u (some c) B)(t:Oj n d (some c) i D)(ab:uq n h)(U:∀a,Sq h a->¬Bj d (some c) i a)
  (o:bj (fun a=>a=c) n m)(x:ev m c L N e)(A:e[q]? =some b)(a5:b.d.length=8)(F:e=i\/(b.d∉i.map (·.d)/\b=⟨b.d,⟨none,0,0⟩,[]⟩/\e=i++[b]))
  (ad:C.ownsRow 0 138 1 s'.val (b.ns.length+1) (b.ns.map (fun l=>Cj l.b)++[Cj h.b]))(P:bj (fun a=>b.s.val.ownBlock=some a) m C)(a4:s'.val.ownBlock=b.s.val.ownBlock\/s'.val.ownBlock=some m.heap.size)
  (Q:bj (fun a=>a=c) C r)(w:ev r c M O (e.set q ⟨b.d,s',b.ns++[h]⟩)):
  qq r d u (some c) B/\Oj r d (some c) (e.set q ⟨b.d,s',b.ns++[h]⟩) (D+1)/\uq r h/\(∀a,Sq h a->¬Bj d (some c) (e.set q ⟨b.d,s',b.ns++[h]⟩) a)/\(∀a,Bj d (some c) (e.set q ⟨b.d,s',b.ns++[h]⟩) a->a<n.heap.size->Bj d (some c) i a)/\bj (Bj d (some c) i) n r/\(∀f∈e.set q ⟨b.d,s',b.ns++[h]⟩,∀l∈f.ns,l=h\/∃E∈i,l∈E.ns):=by
 have a9:c<n.heap.size:=by
  obtain⟨X,Y,G,_⟩:=t.map;exact(SN.1 G).1
 have T:d≠c:=fun f=>by
  obtain⟨X,Y,G,_⟩:=t.map;have v:n.heap[d]? =_:=y;rw[f,G]at v;cases v
 have I:IX m (some c) e:=⟨L,N,x.heap,x.kv,x.nodup,x.lt⟩;have H:∀a,Bj d (some c) e a↔Bj d (some c) i a:=fun a=>by
  rcases F with j|⟨_,s,j⟩
  .rw[j]
  .rw[j,s];exact aY
 have K:Oj m d (some c) e D:=by
  rcases F with j|⟨aa,s,j⟩
  .subst j;exact t.frame o I
  .rw[j,s]at I⊢;exact t.snoc o a5 aa I
 have R:bj (Bj d (some c) i) n m:=o.mono (fun a _ p=>RM (SM (by rw[p])));have ac:uq m h:=ab.frame R U;obtain⟨v,a0,a1,a2,a3⟩:=K.push A (qN (aj.lt y) o.size) (qN a9 o.size) ac (fun a p a8=>U a p ((H a).1 a8)) ad P a4 Q ⟨M,O,w.heap,w.kv,w.nodup,w.lt⟩;have J:qq m d u (some c) B:=aj.of_block y (o.block d (aj.lt y) T);have V:qq C d u (some c) B:=aj.of_block J (P.block d (aj.lt J) (fun f=>xj (K.own b (mN A)) J (by decide) f));refine⟨aj.of_block V (Q.block d (aj.lt V) T),v,a0,a1,fun a p a7=>(H a).1 (a2 a p (qN a7 o.size)),R.trans (a3.mono (fun a _ p=>(H a).1 p)),?_⟩;have W:∀f∈e,∀l∈f.ns,∃E∈i,l∈E.ns:=fun f k l g=>by
  rcases F with j|⟨_,s,j⟩
  .rw[j]at k;exact⟨f,k,g⟩
  .rw[j]at k;rcases fN.1 k with k|k
   .exact⟨f,k,g⟩
   .simp only[eN]at k;rw[k,s]at g;cases g
 intro f k l g;obtain⟨ae,z⟩:=yaj k;have a6:=(kN.1 A).1;by_cases S:q=ae
 .subst S;rw[Caj a6]at z;have Z:=(lN z).symm;subst Z;rcases fN.1 g with g|g
  .exact RM (W b (mN A) l g)
  .simp only[eN]at g;exact SM g
 .rw[Oaj S]at z;exact RM (W f (mN z) l g)
theorem Hk(a:Nd){b c d e f g h i:UInt8}(j:Aj (Gj a.level a.its)=[b,c,d,e,f,g,h,i]):CZ a=[a.la.val,a.by_.val,.int .u8 b.toNat,.int .u8 c.toNat,.int .u8 d.toNat,.int .u8 e.toNat,.int .u8 f.toNat,.int .u8 g.toNat,.int .u8 h.toNat,.int .u8 i.toNat,a.be.val]:=by
 unfold CZ;rw[j];rfl
theorem fG(n c v:Nat)(aT bg:dj)(k:List Tj)(a:Nd)(b:World)(a4:qq b n aT (some c) bg)(r:Oj b n (some c) k v)(an:uq b a)(bb:∀e,Sq a e->¬Bj n (some c) k e)(b2:v<=1000000):
  CP 155 #[.pointer (some ⟨n,1,none⟩),.pointer (some ⟨a.b,0,none⟩)] b fun j a9=>j=.returned (.tuple #[])/\∃Y,qq a9 n aT (some c) bg/\Oj a9 n (some c) Y (v+1)/\uq a9 a/\(∀e,Sq a e->¬Bj n (some c) Y e)/\(∀e,Bj n (some c) Y e->e<b.heap.size->Bj n (some c) k e)/\bj (Bj n (some c) k) b a9/\(∀j∈Y,∀m∈j.ns,m=a\/∃bI∈k,m∈bI.ns):=by
 have cc:=a4.lt;have bB:b.cell? ⟨n,1,none⟩=some (.map (some c)):=a4.cell 1 (by simp);obtain⟨aO,aS,S,b8,ba,b9⟩:=r.map;have l:ev b c aO aS k:=⟨S,b8,ba,b9⟩;obtain⟨X,ak⟩:∃X,X=Aj (Gj a.level a.its):=⟨_,rfl⟩;have b5:X.length=8:=by rw[ak];rfl
 obtain⟨C,D,E,F,G,H,I,J,rfl⟩:=uj X b5;have i:=an.row;rw[Hk a ak.symm]at i;have bO:b.cell? ⟨a.b,2,none⟩=some (.int .u8 C.toNat):=i.cell 2 (by simp);have bP:b.cell? ⟨a.b,3,none⟩=some (.int .u8 D.toNat):=i.cell 3 (by simp);have bR:b.cell? ⟨a.b,4,none⟩=some (.int .u8 E.toNat):=i.cell 4 (by simp);have bS:b.cell? ⟨a.b,5,none⟩=some (.int .u8 F.toNat):=i.cell 5 (by simp);have bT:b.cell? ⟨a.b,6,none⟩=some (.int .u8 G.toNat):=i.cell 6 (by simp);have c0:b.cell? ⟨a.b,7,none⟩=some (.int .u8 H.toNat):=i.cell 7 (by simp);have c1:b.cell? ⟨a.b,8,none⟩=some (.int .u8 I.toNat):=i.cell 8 (by simp);have c2:b.cell? ⟨a.b,9,none⟩=some (.int .u8 J.toNat):=i.cell 9 (by simp);have bn:Hd (dV [C,D,E,F,G,H,I,J]=.agg (cO C D E F G H I J)):=rfl
 -- an entry for the key, ahead of the list of one, or behind it
 obtain⟨o,aR,bD,a0,be,h,bA,c9,B,a8,a6,b4,b7,A,ce⟩:=ew (w:=b.drew) ⟨l.heap,l.kv,l.nodup,l.lt⟩ r.d8 r.kd [C,D,E,F,G,H,I,J] rfl;have b1:ev ((b.alloc (.cells #[.pointer (some ⟨a.b,0,none⟩)] 138)).drew) c aO aS k:=⟨by
  have q:(b.alloc (.cells #[.pointer (some ⟨a.b,0,none⟩)] 138)).heap[c]? =b.heap[c]? :=((VM b.heap.size b).alloc (TM _) _).block c (SN.1 S).1;exact q.trans S,l.kv,l.nodup,l.lt⟩
 obtain⟨z,aP,bC,Z,bd,f,bw,c8,b0,a7,a5,b3,b6,ai,cd⟩:=ew b1 r.d8 r.kd [C,D,E,F,G,H,I,J] rfl;rw[bn.o]at c8 c9;have ct:=fun b=>fw b (some c);have ab:Hd (a0=k\/(h.d∉k.map (·.d)/\h=⟨h.d,⟨none,0,0⟩,[]⟩/\a0=k++[h])):=by
  rcases b7 with M|⟨q,x,a1⟩
  .exact SM M
  .exact RM ⟨by rw[a6];exact q,by rw[a6];exact x,a1⟩
 have aa:Hd (Z=k\/(f.d∉k.map (·.d)/\f=⟨f.d,⟨none,0,0⟩,[]⟩/\Z=k++[f])):=by
  rcases b6 with M|⟨q,x,a1⟩
  .exact SM M
  .exact RM ⟨by rw[a5];exact q,by rw[a5];exact x,a1⟩
 have bk:Hd (h.d.length=8):=by unfold Hd;rw[a6];rfl
 have bi:Hd (f.d.length=8):=by unfold Hd;rw[a5];rfl
 have R:∀{t:World} {u:List Tj} {d:Tj} {bf:Nat},bj (fun e=>e=c) b t->u[bf]? =some d->(u=k\/(d.d∉k.map (·.d)/\d=⟨d.d,⟨none,0,0⟩,[]⟩/\u=k++[d]))->t.ownsRow 0 138 1 (.slice d.s.a d.s.n d.s.cap) d.ns.length (d.ns.map (fun m=>Cj m.b))/\d.ns.length<=v:=fun{t u d bf} ah c6 c3=>by
  rcases c3 with M|⟨_,x,a1⟩
  .subst M;have am:=mN c6;exact⟨ij (r.own d am) ah (fun e c7 bE=>(r.msb d am e c7).2 (by rw[bE])),r.cnt d am⟩
  .rw[x];exact⟨iN _ _ _ _,nN _⟩
 have a3:bj (fun e=>e=c) b o:=⟨A.os,A.tape,A.output,A.size,A.block⟩;have a2:bj (fun e=>e=c) b z:=bj.trans ((bj.refl _ b).alloc (.cells #[.pointer (some ⟨a.b,0,none⟩)] 138)).drew ai;have aI:Hd ((o.alloc (.cells #[.pointer (some ⟨a.b,0,none⟩)] 138)).ownsRow 0 138 1 (.slice h.s.a h.s.n h.s.cap) h.ns.length (h.ns.map (fun m=>Cj m.b))):=(R a3 a8 ab.o).1.alloc _;have aE:Hd (z.ownsRow 0 138 1 (.slice f.s.a f.s.n f.s.cap) f.ns.length (f.ns.map (fun m=>Cj m.b))):=(R a2 a7 aa.o).1;have aD:Hd (h.ns.length<=v):=(R a3 a8 ab.o).2;have aC:Hd (f.ns.length<=v):=(R a2 a7 aa.o).2;have bs:Hd (jj (o.alloc (.cells #[.pointer (some ⟨a.b,0,none⟩)] 138)) (some ⟨o.heap.size,0,none⟩) [.pointer (some ⟨a.b,0,none⟩)]):=jj.alloc_new o _ _;have ao:aj ((b.alloc (.cells #[.pointer (some ⟨a.b,0,none⟩)] 138)).drew) b.heap.size 138 [.pointer (some ⟨a.b,0,none⟩)]:=aj.new b _ _;have cu:c<b.heap.size:=(SN.1 S).1;have ap:aj z b.heap.size 138 [.pointer (some ⟨a.b,0,none⟩)]:=ao.of_block (ai.block _ ao.lt (fun j=>by omega));have br:Hd (jj z (some ⟨b.heap.size,0,none⟩) [.pointer (some ⟨a.b,0,none⟩)]):=fun cf c5=>⟨b.heap.size,0,rfl,ap.lt,by rw[sN];exact ap.cell cf c5⟩;have av:Hd (∀bh∈[Value.pointer (some ⟨a.b,0,none⟩)],bh.oneCell'=true):=fun bh bc=>by simp at bc;subst bc;rfl
 have ad:Hd (ev (o.alloc (.cells #[.pointer (some ⟨a.b,0,none⟩)] 138)) c aR bD a0):=⟨by
  have q:(o.alloc (.cells #[.pointer (some ⟨a.b,0,none⟩)] 138)).heap[c]? =o.heap[c]? :=((VM o.heap.size o).alloc (TM _) _).block c (SN.1 B.heap).1;exact q.trans B.heap,B.kv,B.nodup,B.lt⟩
 have bp:Hd (bj (fun e=>e=c) b (o.alloc (.cells #[.pointer (some ⟨a.b,0,none⟩)] 138))):=a3.alloc _;have bo:Hd (bj (fun e=>e=c) b z):=a2;have ac:Hd (ev z c aP bC Z):=b0;have aA:Hd (a0[be]? =some h):=a8;have ax:Hd (Z[bd]? =some f):=a7;have bm:Hd (aR.toList[be]?.map (·.born)=some bA):=b4;have bl:Hd (aP.toList[bd]?.map (·.born)=some bw):=b3;have aB:Hd (∀{t:World} {u:List Tj} {d:Tj} {ae:Array MapEntry} {af:Nat} {V:World},ev t c ae af u->bj (fun e=>(Value.slice d.s.a d.s.n d.s.cap).ownBlock=some e) t V->(∀au ag,¬t.heap[c]? =some (.cells ag au (0,0)))->t.ownsRow 0 138 1 (.slice d.s.a d.s.n d.s.cap) d.ns.length (d.ns.map (fun m=>Cj m.b))->ev V c ae af u):=fun{t u d ae af V} l ah ca cb=>by
  refine⟨?_,l.kv,l.nodup,l.lt⟩;rw[ah.block c (SN.1 l.heap).1 (fun j=>?_)]
  .exact l.heap
  .rcases cb.2 with⟨q,_⟩|⟨cj,ch,ci,q,_,x,_⟩
   .rw[q]at j;cases j
   .rw[q]at j;simp only[Value.ownBlock,yN]at j;subst j;exact ca _ _ x
 have s:Below b.heap.size b (b.alloc (.cells #[.pointer (some ⟨a.b,0,none⟩)] 138)):=tO;have cg:(b.alloc (.cells #[.pointer (some ⟨a.b,0,none⟩)] 138)).cell? ⟨n,1,none⟩=some (.map (some c)):=by rw[s.cell (p:=⟨n,1,none⟩) cc];exact bB
 have ck:(b.alloc (.cells #[.pointer (some ⟨a.b,0,none⟩)] 138)).cell? ⟨a.b,2,none⟩=some (.int .u8 C.toNat):=by rw[s.cell (p:=⟨a.b,2,none⟩) i.lt];exact bO
 have cl:(b.alloc (.cells #[.pointer (some ⟨a.b,0,none⟩)] 138)).cell? ⟨a.b,3,none⟩=some (.int .u8 D.toNat):=by rw[s.cell (p:=⟨a.b,3,none⟩) i.lt];exact bP
 have cm:(b.alloc (.cells #[.pointer (some ⟨a.b,0,none⟩)] 138)).cell? ⟨a.b,4,none⟩=some (.int .u8 E.toNat):=by rw[s.cell (p:=⟨a.b,4,none⟩) i.lt];exact bR
 have cn:(b.alloc (.cells #[.pointer (some ⟨a.b,0,none⟩)] 138)).cell? ⟨a.b,5,none⟩=some (.int .u8 F.toNat):=by rw[s.cell (p:=⟨a.b,5,none⟩) i.lt];exact bS
 have co:(b.alloc (.cells #[.pointer (some ⟨a.b,0,none⟩)] 138)).cell? ⟨a.b,6,none⟩=some (.int .u8 G.toNat):=by rw[s.cell (p:=⟨a.b,6,none⟩) i.lt];exact bT
 have cp:(b.alloc (.cells #[.pointer (some ⟨a.b,0,none⟩)] 138)).cell? ⟨a.b,7,none⟩=some (.int .u8 H.toNat):=by rw[s.cell (p:=⟨a.b,7,none⟩) i.lt];exact c0
 have cr:(b.alloc (.cells #[.pointer (some ⟨a.b,0,none⟩)] 138)).cell? ⟨a.b,8,none⟩=some (.int .u8 I.toNat):=by rw[s.cell (p:=⟨a.b,8,none⟩) i.lt];exact c1
 have cs:(b.alloc (.cells #[.pointer (some ⟨a.b,0,none⟩)] 138)).cell? ⟨a.b,9,none⟩=some (.int .u8 J.toNat):=by rw[s.cell (p:=⟨a.b,9,none⟩) i.lt];exact c2
 have W:Hd (v<=1000000):=b2;clear s b6 b7 a5 a6 b3 b4 a7 a8 R a3 a2 ao ap b0 B ai A cd ce b1 ak b5 i l b8 ba b9 S b2;go_enter Tryz.func155,Tryz.ntmps155;go_wp2
 go_region_law (first
  |(refine cq (by rfl) (.tmp 21) (.tmp 23) 128 (by rfl) 0 138 _ 1 8 Tryz.underlying128 Tryz.infoNodeP rfl (by decide) (.slice h.s.a h.s.n h.s.cap) h.ns.length (h.ns.map (fun m=>Cj m.b)) (by rfl) aI.o ⟨o.heap.size,0,none⟩ 1 1 [.pointer (some ⟨a.b,0,none⟩)] (by rfl) rfl bs.o av.o (by have:=aD.o;have:=W.o;unfold maxLen;omega) (by have:=aD.o;have:=W.o;omega) (nN _) ?_;intro K U L V T y Q;have O:=aB.o ad.o y (fun au ag j=>by have:=ad.o.heap;rw[this]at j;cases j) aI.o;obtain⟨bu,bv,c4,P,N,ar⟩:=Vy (g:=⟨h.d,⟨K,U,L⟩,h.ns++[a]⟩) O aA.o bm.o rfl;have al:=jQ (s':=⟨K,U,L⟩) a4 r an bb bp.o ad.o aA.o bk.o ab.o T y Q N P;clear O P N ar Q y T)
  |(refine cq (by rfl) (.tmp 21) (.tmp 23) 128 (by rfl) 0 138 _ 1 8 Tryz.underlying128 Tryz.infoNodeP rfl (by decide) (.slice f.s.a f.s.n f.s.cap) f.ns.length (f.ns.map (fun m=>Cj m.b)) (by rfl) aE.o ⟨b.heap.size,0,none⟩ 1 1 [.pointer (some ⟨a.b,0,none⟩)] (by rfl) rfl br.o av.o (by have:=aC.o;have:=W.o;unfold maxLen;omega) (by have:=aC.o;have:=W.o;omega) (nN _) ?_;intro K U L V T y Q;have O:=aB.o ac.o y (fun au ag j=>by have:=ac.o.heap;rw[this]at j;cases j) aE.o;obtain⟨bu,bv,c4,P,N,ar⟩:=Vy (g:=⟨f.d,⟨K,U,L⟩,f.ns++[a]⟩) O ax.o bl.o rfl;have al:=jQ (s':=⟨K,U,L⟩) a4 r an bb bo.o ac.o ax.o bi.o aa.o T y Q N P;clear O P N ar Q y T))
 all_goals
  go_wp2;go_returns;exact⟨rfl,al.1,_,al.2⟩
theorem gG(e C:Nat)(X a6:dj)(a:Nd)(i:World)(af:qq i e X none a6)(aI:uq i a)(aP:∀b,Sq a b->b≠e)(bh:C<=1000000):
  CP 155 #[.pointer (some ⟨e,1,none⟩),.pointer (some ⟨a.b,0,none⟩)] i fun f al=>f=.returned (.tuple #[])/\∃d o,qq al e X (some d) a6/\Oj al e (some d) o (C+1)/\uq al a/\(∀b,Sq a b->¬Bj e (some d) o b)/\(∀b,Bj e (some d) o b->b<i.heap.size->b=e)/\bj (fun b=>b=e) i al/\(∀f∈o,∀k∈f.ns,k=a):=by
 have dh:=af.lt;have cS:i.cell? ⟨e,1,none⟩=some (.map none):=af.cell 1 (by simp);have d3:i.frozen? ⟨e,1,none⟩=false:=af.frozen 1;have de:=fun c=>fw c none;have df:= @run_makeMap Tryz.prog;obtain⟨c,M⟩:∃c,c=(i.setCell ⟨e,1,none⟩ (.map (some i.heap.size))).alloc (.map #[] 0):=⟨_,rfl⟩;obtain⟨d,F⟩:∃d,d=i.heap.size:=⟨_,rfl⟩;have aA:bj (fun b=>b=e) i c:=by rw[M];exact((bj.refl (fun b=>b=e) i).setCell (p:=⟨e,1,none⟩) rfl _).alloc _
 have ae:qq c e X (some d) a6:=by
  rw[M,F];have r:=aj.alloc (aj.set af 1 (.map (some i.heap.size))) (.map #[] 0);simpa using r
 have cD:c.heap.size=i.heap.size+1:=by rw[M];simp
 have bs:c.heap[d]? =some (.map #[] 0):=by
  rw[M,F];have cC:(i.setCell ⟨e,1,none⟩ (.map (some i.heap.size))).heap.size=i.heap.size:=by simp
  have j:=Array.getElem?_push_size (xs:=(i.setCell ⟨e,1,none⟩ (.map (some i.heap.size))).heap) (x:=Obj.map #[] 0);rw[cC]at j;exact j
 have y:Oj c e (some d) [] C:=⟨⟨#[],0,bs,rfl,by simp,fun f n=>by simp at n⟩,(fun f n=>by cases n),(fun f n=>by cases n),(fun f n=>by cases n),(fun bw di f d2 _ aD=>by simp at aD),(fun f n=>by cases n),(fun f n=>by cases n),(fun f n=>by cases n),by simp⟩;have aE:uq c a:=aI.frame aA (fun b v f=>aP b v f);have aO:∀b,Sq a b->¬Bj e (some d) [] b:=fun b v cu=>by
  rcases cu with j|j|⟨f,n,_⟩
  .exact aP b v j
  .have:=aI.lt b v;have:=lN j;omega
  .cases n
 have b2:Hd (∀{z:World} {o:List Tj},(qq z e X (some d) a6/\Oj z e (some d) o (C+1)/\uq z a/\(∀b,Sq a b->¬Bj e (some d) o b)/\(∀b,Bj e (some d) o b->b<c.heap.size->Bj e (some d) [] b)/\bj (Bj e (some d) []) c z/\(∀f∈o,∀k∈f.ns,k=a\/∃be∈([]:List Tj),k∈be.ns))->∃d o,qq z e X (some d) a6/\Oj z e (some d) o (C+1)/\uq z a/\(∀b,Sq a b->¬Bj e (some d) o b)/\(∀b,Bj e (some d) o b->b<i.heap.size->b=e)/\bj (fun b=>b=e) i z/\(∀f∈o,∀k∈f.ns,k=a)):=fun{z o} j=>by
  obtain⟨r,A,J,cj,ck,cl,cm⟩:=j;have bD:∀b,Bj e (some d) [] b->b<i.heap.size->b=e:=fun b v H=>by
   rcases v with j|j|⟨f,n,_⟩
   .exact j
   .have:=lN j;omega
   .cases n
  exact⟨d,o,r,A,J,cj,fun b v H=>bD b (ck b v (by omega)) H,aA.inside cl (fun b H v=>bD b v H),fun f n k cE=>by
   rcases cm f n k cE with j|⟨be,co,_⟩
   .exact j
   .cases co⟩
 obtain⟨t,bm⟩:∃t:List Tj,t=[]:=⟨_,rfl⟩;rw[<-bm]at y aO b2;have c1:Hd (i.heap.size=d):=F.symm;clear bm aA cD bs aI aP F;have cB:=ae.lt;have c7:c.cell? ⟨e,1,none⟩=some (.map (some d)):=ae.cell 1 (by simp);obtain⟨ba,bd,a3,br,bu,H⟩:=y.map;have s:ev c d ba bd t:=⟨a3,br,bu,H⟩;obtain⟨a9,aC⟩:∃a9,a9=Aj (Gj a.level a.its):=⟨_,rfl⟩;have bl:a9.length=8:=by rw[aC];rfl
 obtain⟨N,O,P,Q,R,S,T,U,rfl⟩:=uj a9 bl;have q:=aE.row;rw[Hk a aC.symm]at q;have cb:c.cell? ⟨a.b,2,none⟩=some (.int .u8 N.toNat):=q.cell 2 (by simp);have cc:c.cell? ⟨a.b,3,none⟩=some (.int .u8 O.toNat):=q.cell 3 (by simp);have cd:c.cell? ⟨a.b,4,none⟩=some (.int .u8 P.toNat):=q.cell 4 (by simp);have ce:c.cell? ⟨a.b,5,none⟩=some (.int .u8 Q.toNat):=q.cell 5 (by simp);have cf:c.cell? ⟨a.b,6,none⟩=some (.int .u8 R.toNat):=q.cell 6 (by simp);have cg:c.cell? ⟨a.b,7,none⟩=some (.int .u8 S.toNat):=q.cell 7 (by simp);have ch:c.cell? ⟨a.b,8,none⟩=some (.int .u8 T.toNat):=q.cell 8 (by simp);have ci:c.cell? ⟨a.b,9,none⟩=some (.int .u8 U.toNat):=q.cell 9 (by simp);have bS:Hd (dV [N,O,P,Q,R,S,T,U]=.agg (cO N O P Q R S T U)):=rfl
 -- an entry for the key, ahead of the list of one, or behind it
 obtain⟨u,bc,c9,ab,bB,m,c6,ct,L,ak,ah,bk,bo,K,cP⟩:=ew (w:=c.drew) ⟨s.heap,s.kv,s.nodup,s.lt⟩ y.d8 y.kd [N,O,P,Q,R,S,T,U] rfl;have bg:ev ((c.alloc (.cells #[.pointer (some ⟨a.b,0,none⟩)] 138)).drew) d ba bd t:=⟨by
  have r:(c.alloc (.cells #[.pointer (some ⟨a.b,0,none⟩)] 138)).heap[d]? =c.heap[d]? :=((VM c.heap.size c).alloc (TM _) _).block d (SN.1 a3).1;exact r.trans a3,s.kv,s.nodup,s.lt⟩
 obtain⟨I,bb,c8,aa,bA,l,c5,cs,bf,ai,ag,bi,bn,aB,cI⟩:=ew bg y.d8 y.kd [N,O,P,Q,R,S,T,U] rfl;rw[bS.o]at cs ct;have dd:=fun c=>fw c (some d);have an:Hd (ab=t\/(m.d∉t.map (·.d)/\m=⟨m.d,⟨none,0,0⟩,[]⟩/\ab=t++[m])):=by
  rcases bo with j|⟨r,A,J⟩
  .exact SM j
  .exact RM ⟨by rw[ah];exact r,by rw[ah];exact A,J⟩
 have am:Hd (aa=t\/(l.d∉t.map (·.d)/\l=⟨l.d,⟨none,0,0⟩,[]⟩/\aa=t++[l])):=by
  rcases bn with j|⟨r,A,J⟩
  .exact SM j
  .exact RM ⟨by rw[ag];exact r,by rw[ag];exact A,J⟩
 have bO:Hd (m.d.length=8):=by unfold Hd;rw[ah];rfl
 have bI:Hd (l.d.length=8):=by unfold Hd;rw[ag];rfl
 have a2:∀{D:World} {E:List Tj} {h:Tj} {bC:Nat},bj (fun b=>b=d) c D->E[bC]? =some h->(E=t\/(h.d∉t.map (·.d)/\h=⟨h.d,⟨none,0,0⟩,[]⟩/\E=t++[h]))->D.ownsRow 0 138 1 (.slice h.s.a h.s.n h.s.cap) h.ns.length (h.ns.map (fun k=>Cj k.b))/\h.ns.length<=C:=fun{D E h bC} ax cr cn=>by
  rcases cn with j|⟨_,A,J⟩
  .subst j;have F:=mN cr;exact⟨ij (y.own h F) ax (fun b v ca=>(y.msb h F b v).2 (by rw[ca])),y.cnt h F⟩
  .rw[A];exact⟨iN _ _ _ _,nN _⟩
 have ad:bj (fun b=>b=d) c u:=⟨K.os,K.tape,K.output,K.size,K.block⟩;have ac:bj (fun b=>b=d) c I:=bj.trans ((bj.refl _ c).alloc (.cells #[.pointer (some ⟨a.b,0,none⟩)] 138)).drew aB;have b9:Hd ((u.alloc (.cells #[.pointer (some ⟨a.b,0,none⟩)] 138)).ownsRow 0 138 1 (.slice m.s.a m.s.n m.s.cap) m.ns.length (m.ns.map (fun k=>Cj k.b))):=(a2 ad ak an.o).1.alloc _;have b8:Hd (I.ownsRow 0 138 1 (.slice l.s.a l.s.n l.s.cap) l.ns.length (l.ns.map (fun k=>Cj k.b))):=(a2 ac ai am.o).1;have b7:Hd (m.ns.length<=C):=(a2 ad ak an.o).2;have b6:Hd (l.ns.length<=C):=(a2 ac ai am.o).2;have c3:Hd (jj (u.alloc (.cells #[.pointer (some ⟨a.b,0,none⟩)] 138)) (some ⟨u.heap.size,0,none⟩) [.pointer (some ⟨a.b,0,none⟩)]):=jj.alloc_new u _ _;have aR:aj ((c.alloc (.cells #[.pointer (some ⟨a.b,0,none⟩)] 138)).drew) c.heap.size 138 [.pointer (some ⟨a.b,0,none⟩)]:=aj.new c _ _;have dg:d<c.heap.size:=(SN.1 a3).1;have aS:aj I c.heap.size 138 [.pointer (some ⟨a.b,0,none⟩)]:=aR.of_block (aB.block _ aR.lt (fun f=>by omega));have c2:Hd (jj I (some ⟨c.heap.size,0,none⟩) [.pointer (some ⟨a.b,0,none⟩)]):=fun bw aD=>⟨c.heap.size,0,rfl,aS.lt,by rw[sN];exact aS.cell bw aD⟩;have b1:Hd (∀bE∈[Value.pointer (some ⟨a.b,0,none⟩)],bE.oneCell'=true):=fun bE bv=>by simp at bv;subst bv;rfl
 have ap:Hd (ev (u.alloc (.cells #[.pointer (some ⟨a.b,0,none⟩)] 138)) d bc c9 ab):=⟨by
  have r:(u.alloc (.cells #[.pointer (some ⟨a.b,0,none⟩)] 138)).heap[d]? =u.heap[d]? :=((VM u.heap.size u).alloc (TM _) _).block d (SN.1 L.heap).1;exact r.trans L.heap,L.kv,L.nodup,L.lt⟩
 have c0:Hd (bj (fun b=>b=d) c (u.alloc (.cells #[.pointer (some ⟨a.b,0,none⟩)] 138))):=ad.alloc _;have bT:Hd (bj (fun b=>b=d) c I):=ac;have ao:Hd (ev I d bb c8 aa):=bf;have b4:Hd (ab[bB]? =some m):=ak;have b3:Hd (aa[bA]? =some l):=ai;have bR:Hd (bc.toList[bB]?.map (·.born)=some c6):=bk;have bP:Hd (bb.toList[bA]?.map (·.born)=some c5):=bi;have b5:Hd (∀{D:World} {E:List Tj} {h:Tj} {ar:Array MapEntry} {au:Nat} {a7:World},ev D d ar au E->bj (fun b=>(Value.slice h.s.a h.s.n h.s.cap).ownBlock=some b) D a7->(∀b0 av,¬D.heap[d]? =some (.cells av b0 (0,0)))->D.ownsRow 0 138 1 (.slice h.s.a h.s.n h.s.cap) h.ns.length (h.ns.map (fun k=>Cj k.b))->ev a7 d ar au E):=fun{D E h ar au a7} s ax cv cA=>by
  refine⟨?_,s.kv,s.nodup,s.lt⟩;rw[ax.block d (SN.1 s.heap).1 (fun f=>?_)]
  .exact s.heap
  .rcases cA.2 with⟨r,_⟩|⟨d4,d0,d1,r,_,A,_⟩
   .rw[r]at f;cases f
   .rw[r]at f;simp only[Value.ownBlock,yN]at f;subst f;exact cv _ _ A
 have B:Below c.heap.size c (c.alloc (.cells #[.pointer (some ⟨a.b,0,none⟩)] 138)):=tO;have cT:(c.alloc (.cells #[.pointer (some ⟨a.b,0,none⟩)] 138)).cell? ⟨e,1,none⟩=some (.map (some d)):=by rw[B.cell (p:=⟨e,1,none⟩) cB];exact c7
 have d5:(c.alloc (.cells #[.pointer (some ⟨a.b,0,none⟩)] 138)).cell? ⟨a.b,2,none⟩=some (.int .u8 N.toNat):=by rw[B.cell (p:=⟨a.b,2,none⟩) q.lt];exact cb
 have d6:(c.alloc (.cells #[.pointer (some ⟨a.b,0,none⟩)] 138)).cell? ⟨a.b,3,none⟩=some (.int .u8 O.toNat):=by rw[B.cell (p:=⟨a.b,3,none⟩) q.lt];exact cc
 have d7:(c.alloc (.cells #[.pointer (some ⟨a.b,0,none⟩)] 138)).cell? ⟨a.b,4,none⟩=some (.int .u8 P.toNat):=by rw[B.cell (p:=⟨a.b,4,none⟩) q.lt];exact cd
 have d8:(c.alloc (.cells #[.pointer (some ⟨a.b,0,none⟩)] 138)).cell? ⟨a.b,5,none⟩=some (.int .u8 Q.toNat):=by rw[B.cell (p:=⟨a.b,5,none⟩) q.lt];exact ce
 have d9:(c.alloc (.cells #[.pointer (some ⟨a.b,0,none⟩)] 138)).cell? ⟨a.b,6,none⟩=some (.int .u8 R.toNat):=by rw[B.cell (p:=⟨a.b,6,none⟩) q.lt];exact cf
 have da:(c.alloc (.cells #[.pointer (some ⟨a.b,0,none⟩)] 138)).cell? ⟨a.b,7,none⟩=some (.int .u8 S.toNat):=by rw[B.cell (p:=⟨a.b,7,none⟩) q.lt];exact cg
 have db:(c.alloc (.cells #[.pointer (some ⟨a.b,0,none⟩)] 138)).cell? ⟨a.b,8,none⟩=some (.int .u8 T.toNat):=by rw[B.cell (p:=⟨a.b,8,none⟩) q.lt];exact ch
 have dc:(c.alloc (.cells #[.pointer (some ⟨a.b,0,none⟩)] 138)).cell? ⟨a.b,9,none⟩=some (.int .u8 U.toNat):=by rw[B.cell (p:=⟨a.b,9,none⟩) q.lt];exact ci
 have a8:Hd (C<=1000000):=bh;clear B bn bo ag ah bi bk ai ak a2 ad ac aR aS bf L aB K cI cP bg aC bl q s br bu H a3 bh;go_enter Tryz.func155,Tryz.ntmps155;go_wp2;rw[<-M];clear M;rw[c1.o]
 go_region_law (first
  |(refine cq (by rfl) (.tmp 21) (.tmp 23) 128 (by rfl) 0 138 _ 1 8 Tryz.underlying128 Tryz.infoNodeP rfl (by decide) (.slice m.s.a m.s.n m.s.cap) m.ns.length (m.ns.map (fun k=>Cj k.b)) (by rfl) b9.o ⟨u.heap.size,0,none⟩ 1 1 [.pointer (some ⟨a.b,0,none⟩)] (by rfl) rfl c3.o b1.o (by have:=b7.o;have:=a8.o;unfold maxLen;omega) (by have:=b7.o;have:=a8.o;omega) (nN _) ?_;intro V a5 W a7 a4 G a1;have Z:=b5.o ap.o G (fun b0 av f=>by have:=ap.o.heap;rw[this]at f;cases f) b9.o;obtain⟨z,c4,cp,a0,Y,aT⟩:=Vy (g:=⟨m.d,⟨V,a5,W⟩,m.ns++[a]⟩) Z b4.o bR.o rfl;have bp:=jQ (s':=⟨V,a5,W⟩) ae y aE aO c0.o ap.o b4.o bO.o an.o a4 G a1 Y a0;clear Z a0 Y aT a1 G a4)
  |(refine cq (by rfl) (.tmp 21) (.tmp 23) 128 (by rfl) 0 138 _ 1 8 Tryz.underlying128 Tryz.infoNodeP rfl (by decide) (.slice l.s.a l.s.n l.s.cap) l.ns.length (l.ns.map (fun k=>Cj k.b)) (by rfl) b8.o ⟨c.heap.size,0,none⟩ 1 1 [.pointer (some ⟨a.b,0,none⟩)] (by rfl) rfl c2.o b1.o (by have:=b6.o;have:=a8.o;unfold maxLen;omega) (by have:=b6.o;have:=a8.o;omega) (nN _) ?_;intro V a5 W a7 a4 G a1;have Z:=b5.o ao.o G (fun b0 av f=>by have:=ao.o.heap;rw[this]at f;cases f) b8.o;obtain⟨z,c4,cp,a0,Y,aT⟩:=Vy (g:=⟨l.d,⟨V,a5,W⟩,l.ns++[a]⟩) Z b3.o bP.o rfl;have bp:=jQ (s':=⟨V,a5,W⟩) ae y aE aO bT.o ao.o b3.o bI.o am.o a4 G a1 Y a0;clear Z a0 Y aT a1 G a4))
 all_goals
  go_wp2;go_returns;obtain⟨cR,o,r,A⟩:=b2.o bp;exact⟨rfl,cR,r,o,A⟩
theorem LH(b j:Nat)(l o:dj)(h:Option Nat)(g:List Tj)(e:Nd)(f:World)(s:qq f b l h o)(q:Oj f b h g j)(t:uq f e)(u:∀a,Sq e a->¬Bj b h g a)(r:j<=1000000):
  CP 155 #[.pointer (some ⟨b,1,none⟩),.pointer (some ⟨e.b,0,none⟩)] f fun c i=>c=.returned (.tuple #[])/\∃n d,qq i b l n o/\Oj i b n d (j+1)/\uq i e/\(∀a,Sq e a->¬Bj b n d a)/\(∀a,Bj b n d a->a<f.heap.size->Bj b h g a)/\bj (Bj b h g) f i/\(∀c∈d,∀p∈c.ns,p=e\/∃v∈g,p∈v.ns):=by
 cases h with
 |some m=>
  refine(fG b m j l o g e f s q t u r).mono ?_;rintro c i ⟨rfl,d,w⟩;exact⟨rfl,some m,d,w⟩
 |none=>
  have F:g=[]:=q.map;subst F;refine(gG b j l o e f s t (fun a k c=>u a k (SM c)) r).mono ?_;rintro c i ⟨rfl,m,d,x,y,z,A,B,C,D⟩;exact⟨rfl,some m,d,x,y,z,A,fun a k G=>SM (B a k G),C.mono (fun a _ k=>SM k),fun c E p H=>SM (D c E p H)⟩
end Go.Proofs.YtekegfbjbainhaaGreat
