import Derived.Test.YtekegfbjbainhaaGreatKJoin9
set_option maxRecDepth 100000
set_option maxHeartbeats 8000000
set_option linter.unusedVariables false
set_option linter.unusedSimpArgs false
namespace Go.Proofs.YtekegfbjbainhaaGreat
open Go.RowKit
theorem NH(b:List Nd)(a:Nat×Nat):((b.drop a.1).take a.2).map Gv=Vq (b.map Gv) a:=by
 unfold Vq;rw[<-List.map_drop,<-Qaj]
theorem iG(F Z j:Nat)(T V:dj)(L:Option Nat)(N:List Tj)(f:dj)(d:List Nd)(o:World)(d3:qq o F T L V)(cE:Oj o F L N Z)(dT:Z<=900000)(ad:j≠0)(bo:j<=6)(br:d≠[])(bf:d.length<=60)
  (aB:o.ownsRow 0 138 1 f.val d.length (d.map (fun J=>Cj J.b)))(bv:∀c,f.val.ownBlock=some c->¬Bj F L N c)(S:∀b∈d,uq o b/\(∀c,Sq b c->¬Bj F L N c)):
  CP 117 #[.pointer (some ⟨F,1,none⟩),.int .i64 j,f.val] o fun R dt=>∃(c2:dj) (af:List Nd) (H:Nat) (dn:Option Nat) (cP:List Tj),R=.returned c2.val/\Jz o F T V L N (fun c=>∃b∈d,Sq b c) dt H dn cP c2 af/\H<=Z+61/\af.map (·.its)=nj j (d.map Gv)/\(∀b∈af,b.level=j)/\af.map (·.bl)=(Tz j (d.map Gv)).map (fun e=>((d.drop e.1).take e.2).map (·.b)):=by
 obtain⟨bw,de,bl,bg⟩:=vj (a:=f.a) (n':=f.n) (cap:=f.cap) aB;have bA:=(jj.ofOwn (s:=f) aB).1;have aD:jj o f.a ((d.map (·.b)).map Cj):=by rw[Baj];exact bA
 have bS:=Jz.start (InF:=fun c=>∃b∈d,Sq b c) d3 cE;have c0:d.map Gv≠[]:=by simpa using br
 have bm:∀J∈d.map Gv,Dq J:=fun J P=>by
  obtain⟨b,O,rfl⟩:=vN.1 P;exact⟨XZ (S b O).1.pg.ok,by show(Aj _).length<=12;rw[Lj];omega⟩
 have bc:Hd (Calls _ _ _ _ _):=kW j f.a f.n f.cap (d.map (·.b)) (d.map Gv) o (by simp[bw]) (by simp) (by simp;omega) (by omega) (by omega) bl bm aD (fun aP U a3=>by
  have d9:aP<d.length:=by simpa using U
  have k:=(S d[aP] (bN d9)).1;refine⟨d[aP].la,?_,?_,?_⟩
  .simp only[Paj];exact k.row.cell 0 (by simp[CZ])
  .simp only[Paj];exact k.row.lt
  .simp only[Paj];exact k.la)
 have ce:Hd ((Tz j (d.map Gv)).map (Vq (d.map Gv))=nj j (d.map Gv)):=LJ j _ c0;have cd:Hd (∀e∈Tz j (d.map Gv),e.1+e.2<=d.length):=fun e d6=>by have:=AV j (d.map Gv) (d.map Gv).length (TM _) e d6;simpa using this
 have b4:Hd ((Tz j (d.map Gv)).length<=60):=by have:=(Oy j (d.map Gv) (d.map Gv).length).2;unfold Hd Tz;simp at this⊢;omega
 generalize Tz j (d.map Gv)=h at*;have e8:(j:Int)<=6:=by omega
 -- the nodes of the level below, while nothing but what may be written changes
 have cm:Hd (∀(wr:World) (H:Nat) (M:Option Nat) (K:List Tj) (I:dj) (t:List Nd),Jz o F T V L N (fun c=>∃b∈d,Sq b c) wr H M K I t->jj wr f.a ((d.map (·.b)).map Cj)/\(∀b∈d,uq wr b/\(∀c,Sq b c->¬Bj F M K c))):=fun wr H M K I t k=>by
  refine⟨aD.frame k.frame (fun J P=>?_),fun b O=>⟨(S b O).1.frame k.frame (S b O).2,fun c X dd=>(S b O).2 c X (k.muts c dd ((S b O).1.lt c X))⟩⟩;refine bv J.block ?_;show(Value.slice f.a f.n f.cap).ownBlock=_;rw[P];rfl
 have cn:Hd (f.a=none->d=[]/\f.cap=0):=fun R=>by
  rcases bg with⟨_,U,a3⟩|⟨dA,U,_⟩
  .exact⟨Xaj (by omega),a3⟩
  .rw[R]at U;cases U
 have cl:Hd (d.length<=f.cap):=by unfold Hd;omega
 have ck:Hd (∀c,(∃b∈d,Sq b c)->c<o.heap.size):=fun c ⟨b,O,X⟩=>(S b O).1.lt c X;have ct:Hd (Jz o F T V L N (fun c=>∃b∈d,Sq b c) o Z L N ⟨none,0,0⟩ []):=bS;have cg:Hd (j≠0):=ad;have ch:Hd (j<=6):=bo;have cj:Hd (d.length<=60):=bf;clear bS c0 bm bA aD bg bl de bw bv aB S ad bo bf br;unfold dj.val at bc⊢;go_enter Tryz.func117,Tryz.ntmps117;go_wp2_with (go_at_call 140;refine bc.o.mono ?_;rintro R c6 ⟨q,rfl,aC,d5⟩);have bO:q.n=h.length:=(vj (a:=q.a) (n':=q.n) (cap:=q.cap) aC).1;have ao:Hd (q.n=h.length):=bO;have dg:(q.n:Int)<=60:=by have:=b4.o;omega
 have df:q.n<=60:=by have:=b4.o;omega
 have ba:Hd (c6.ownsRow o.heap.size 128 1 (.slice q.a q.n q.cap) h.length (h.map (Uq f.a f.cap 1))):=aC;have cu:Hd (Jz o F T V L N (fun c=>∃b∈d,Sq b c) c6 Z L N ⟨none,0,0⟩ []):=ct.o.below d5;clear bO aC
 go_loopw [7,9,10,12,17] (fun dr _ _ _ aR wr=>∃(c H:Nat) (M:Option Nat) (K:List Tj) (I:dj) (t:List Nd),c<=q.n/\aR=.int .i64 c/\dr=I.val/\H<=Z+c/\Hd (Jz o F T V L N (fun c=>∃b∈d,Sq b c) wr H M K I t)/\Hd (t.map (·.its)=(h.take c).map (Vq (d.map Gv)))/\Hd (∀b∈t,b.level=j)/\Hd (t.map (·.bl)=(h.take c).map (fun e=>((d.drop e.1).take e.2).map (·.b)))/\Hd (wr.ownsRow o.heap.size 128 1 (.slice q.a q.n q.cap) h.length (h.map (Uq f.a f.cap 1)))) (fun _ _ _ _ aR _=>q.n - (intOf aR).toNat)
 case atStart=>exact⟨0,Z,L,N,⟨none,0,0⟩,[],by omega,by simp,rfl,by omega,cu,rfl,(fun b S=>by cases S),rfl,ba⟩
 case round=>
  rename World=>u
  obtain⟨c,H,M,K,I,t,X,rfl,rfl,dS,ap,ak,b8,b2,an⟩:=hrel;by_cases db:c<q.n
  .have dc:(c:Int)<q.n:=by omega
   have ac:c<h.length:=by have:=ao.o;omega
   obtain⟨ar,aT,bD,e0,bi⟩:=(jj.ofOwn (s:=q) an.o).1 c (by simpa using ac);have e1:u.cell? ⟨ar,aT+c,none⟩=some (.slice (Fz f.a f.cap h[c].1 1) h[c].2 (f.cap - h[c].1)):=by rw[bi];simp[Uq]
   have cD:Hd ((h.take (c+1)).map (Vq (d.map Gv))=(h.take c).map (Vq (d.map Gv))++[Vq (d.map Gv) h[c]]):=by unfold Hd;rw[RN ac,rN];rfl
   have cA:Hd ((h.take (c+1)).map (fun e=>((d.drop e.1).take e.2).map (·.b))=(h.take c).map (fun e=>((d.drop e.1).take e.2).map (·.b))++[((d.drop h[c].1).take h[c].2).map (·.b)]):=by unfold Hd;rw[RN ac,rN];rfl
   have ai:Hd (h[c].1+h[c].2<=d.length):=cd.o _ (bN ac);obtain⟨eb,c4,c3⟩:=q;simp only at bD dc db X df dg ao an ba;subst bD;generalize h[c]=e at*;obtain⟨bu,bs⟩:=cm.o u H M K I t ap.o
   -- the nodes of this part
   obtain⟨g,a0⟩:∃g,g=(d.drop e.1).take e.2:=⟨_,rfl⟩;have bI:g.length=e.2:=by rw[a0,aN,oN];have:=ai.o;omega
   have aE:∀b∈g,b∈d:=fun b k=>by rw[a0]at k;exact laj (TN k)
   have bR:jj u (Fz f.a f.cap e.1 1) ((g.map (·.b)).map Cj):=by
    have U:=jj.cut (n:=d.length) (cap:=f.cap) (i:=e.1) (size:=1) bu (by simp) (by have:=ai.o;omega) cl.o;have a3:=U.take e.2;rw[Nat.mul_one,<-List.map_drop,<-Qaj,<-List.map_drop,<-Qaj,<-a0]at a3;exact a3
   have cr:Hd (g.map Gv=Vq (d.map Gv) e):=by unfold Hd;rw[a0];exact NH d e
   have a8:Hd (e.2=g.length):=bI.symm;have cs:Hd (((d.drop e.1).take e.2).map (·.b)=g.map (·.b)):=by unfold Hd;rw[a0]
   have bd:Hd (∀b∈g,b∈d):=aE;have be:Hd (jj u (Fz f.a f.cap e.1 1) ((g.map (·.b)).map Cj)):=bR;have al:Hd (∀b∈g,uq u b/\(∀c,Sq b c->¬Bj F M K c)):=fun b k=>bs b (aE b k);have am:Hd (g.length<=60):=by have:=ai.o;have:=cj.o;unfold Hd;omega
   have ca:Hd (Fz f.a f.cap e.1 1=none->f.cap - e.1=0):=fun R=>by have:=(cn.o (Mw R)).2;omega
   have b9:Hd (t.length<=c):=by
    have:=congrArg List.length ak.o;simp at this;unfold Hd;omega
   have e2:(e.2:Int)<=60:=by have:=a8.o;have:=am.o;omega
   have c9:Hd (tZ u (u.alloc (.cells #[.int .i64 j,.slice none 0 0] 171)) u.heap.size j ⟨none,0,0⟩ []):=⟨tO,aj.new u _ _,iN _ _ _ _⟩;clear a0 bI aE bR bu bs bi;unfold dj.val;go_wp2
   go_loopw [12,25] (fun _ aS wr=>∃(m:Nat) (G:dj),m<=e.2/\aS=.int .i64 m/\Hd (tZ u wr u.heap.size j G ((g.take m).map Gy))) (fun _ aS _=>e.2 - (intOf aS).toNat)
   case atStart=>exact⟨0,⟨none,0,0⟩,by omega,by simp,by simpa using c9⟩
   case round=>
    obtain⟨m,G,e5,rfl,a7⟩:=hrel;by_cases e6:m<e.2
    .have bn:(m:Int)<e.2:=by omega
     have aA:m<g.length:=by have:=a8.o;omega
     have E:=a7.o;obtain⟨cI,ds,d7,d4,bk⟩:=jj.ptr (l:=g.map (·.b)) (be.o.below_all E.bel) m (by simpa using aA);have e3:wr.cell? ⟨cI,ds+m,none⟩=some (.pointer (some ⟨g[m].b,0,none⟩)):=by rw[bk];simp
     have bp:=(al.o g[m] (bN aA)).1.below E.bel;have cC:Hd ((g.take (m+1)).map Gy=(g.take m).map Gy++[Gy g[m]]):=by unfold Hd;rw[RN aA,rN];rfl
     have b6:Hd (((g.take m).map Gy).length<=60):=by have:=am.o;unfold Hd;rw[FN,aN];omega
     generalize g[m]=b at*;rw[d7];obtain⟨v,w,x,y,z,A,B,C,a6⟩:=uj (Aj (Gj b.level b.its)) rfl;have r:=bp.row;rw[Hk b a6]at r;have da:wr.cell? ⟨b.b,0,none⟩=some (.slice b.la.a b.la.n b.la.cap):=r.cell 0 (by simp);have cS:wr.cell? ⟨b.b,2,none⟩=some (.int .u8 v.toNat):=r.cell 2 (by simp);have au:wr.cell? ⟨b.b,3,none⟩=some (.int .u8 w.toNat):=r.cell 3 (by simp);have av:wr.cell? ⟨b.b,4,none⟩=some (.int .u8 x.toNat):=r.cell 4 (by simp);have ax:wr.cell? ⟨b.b,5,none⟩=some (.int .u8 y.toNat):=r.cell 5 (by simp);have cT:wr.cell? ⟨b.b,6,none⟩=some (.int .u8 z.toNat):=r.cell 6 (by simp);have d0:wr.cell? ⟨b.b,7,none⟩=some (.int .u8 A.toNat):=r.cell 7 (by simp);have d1:wr.cell? ⟨b.b,8,none⟩=some (.int .u8 B.toNat):=r.cell 8 (by simp);have d2:wr.cell? ⟨b.b,9,none⟩=some (.int .u8 C.toNat):=r.cell 9 (by simp);have bC:wr.cell? ⟨u.heap.size,1,none⟩=some (.slice G.a G.n G.cap):=E.row.cell 1 (by simp);have D:Below wr.heap.size wr (wr.alloc (.cells (mO b.la v w x y z A B C) 74)):=tO;have dB:(wr.alloc (.cells (mO b.la v w x y z A B C) 74)).cell? ⟨b.b,2,none⟩=some (.int .u8 v.toNat):=by rw[D.cell (p:=⟨b.b,2,none⟩) r.lt];exact cS
     have dC:(wr.alloc (.cells (mO b.la v w x y z A B C) 74)).cell? ⟨b.b,3,none⟩=some (.int .u8 w.toNat):=by rw[D.cell (p:=⟨b.b,3,none⟩) r.lt];exact au
     have dD:(wr.alloc (.cells (mO b.la v w x y z A B C) 74)).cell? ⟨b.b,4,none⟩=some (.int .u8 x.toNat):=by rw[D.cell (p:=⟨b.b,4,none⟩) r.lt];exact av
     have dE:(wr.alloc (.cells (mO b.la v w x y z A B C) 74)).cell? ⟨b.b,5,none⟩=some (.int .u8 y.toNat):=by rw[D.cell (p:=⟨b.b,5,none⟩) r.lt];exact ax
     have dI:(wr.alloc (.cells (mO b.la v w x y z A B C) 74)).cell? ⟨b.b,6,none⟩=some (.int .u8 z.toNat):=by rw[D.cell (p:=⟨b.b,6,none⟩) r.lt];exact cT
     have dO:(wr.alloc (.cells (mO b.la v w x y z A B C) 74)).cell? ⟨b.b,7,none⟩=some (.int .u8 A.toNat):=by rw[D.cell (p:=⟨b.b,7,none⟩) r.lt];exact d0
     have dP:(wr.alloc (.cells (mO b.la v w x y z A B C) 74)).cell? ⟨b.b,8,none⟩=some (.int .u8 B.toNat):=by rw[D.cell (p:=⟨b.b,8,none⟩) r.lt];exact d1
     have dR:(wr.alloc (.cells (mO b.la v w x y z A B C) 74)).cell? ⟨b.b,9,none⟩=some (.int .u8 C.toNat):=by rw[D.cell (p:=⟨b.b,9,none⟩) r.lt];exact d2
     have e7:(wr.alloc (.cells (mO b.la v w x y z A B C) 74)).cell? ⟨b.b,0,none⟩=some (.slice b.la.a b.la.n b.la.cap):=by rw[D.cell (p:=⟨b.b,0,none⟩) r.lt];exact da
     have ea:(wr.alloc (.cells (mO b.la v w x y z A B C) 74)).cell? ⟨u.heap.size,1,none⟩=some (.slice G.a G.n G.cap):=by rw[D.cell (p:=⟨u.heap.size,1,none⟩) E.row.lt];exact bC
     have cf:Hd (qv (Gy b)=[.slice b.la.a b.la.n b.la.cap,.slice none 0 0,.int .u8 v.toNat,.int .u8 w.toNat,.int .u8 x.toNat,.int .u8 y.toNat,.int .u8 z.toNat,.int .u8 A.toNat,.int .u8 B.toNat,.int .u8 C.toNat]):=by
      unfold Hd qv Gy;simp only[a6];rfl
     have a9:Below wr.heap.size wr ((wr.alloc (.cells (mO b.la v w x y z A B C) 74)).drew):=⟨D.os,D.tape,D.output,D.size,D.block⟩;have cp:Hd (((wr.alloc (.cells (mO b.la v w x y z A B C) 74)).drew).ownsRow u.heap.size 74 10 (.slice G.a G.n G.cap) ((g.take m).map Gy).length (Sj ((g.take m).map Gy))):=lj E.own a9;have cv:Hd (jj ((wr.alloc (.cells (mO b.la v w x y z A B C) 74)).drew) (some ⟨wr.heap.size,0,none⟩) (qv (Gy b))):=by
      unfold Hd;rw[cf.o];exact jj.alloc_new wr _ _
     have c8:Hd (∀ag∈qv (Gy b),ag.oneCell'=true):=dJ _;have ci:Hd ((qv (Gy b)).length=1*10):=Gx (Gy b) rfl;have cb:Hd (u.heap.size<=((wr.alloc (.cells (mO b.la v w x y z A B C) 74)).drew).heap.size):=WM E.bel.size a9.size;have cc:Hd (BB wr ((wr.alloc (.cells (mO b.la v w x y z A B C) 74)).drew)):=a9;clear D a9 r bp E bk a6 d4;go_wp2
     go_region_law ((refine cq (by rfl) (.tmp 30) (.tmp 40) 67 (by rfl) u.heap.size 74 _ 10 56 Tryz.underlying67 Tryz.infoEntry rfl (by decide) (.slice G.a G.n G.cap) ((g.take m).map Gy).length (Sj ((g.take m).map Gy)) (by rfl) cp.o ⟨wr.heap.size,0,none⟩ 1 1 (qv (Gy b)) (by rfl) ci.o cv.o c8.o (by have:=b6.o;unfold maxLen;omega) (by have:=b6.o;omega) cb.o ?_;intro a1 c1 a2 du ae ab bh;obtain⟨dh,d8,e4⟩:=tZ.push (v':=⟨a1,c1,a2⟩) a7.o (TM _) cc.o ae ab;unfold dj.val at d8))
     all_goals
      go_wp2;refine⟨⟨m+1,⟨a1,c1,a2⟩,by omega,by go_num,?_⟩,by simp[intOf];omega⟩;unfold Hd;rw[cC.o];exact dh
    .have bn:¬(m:Int)<e.2:=by omega
     have cB:Hd ((g.take m).map Gy=g.map Gy):=by unfold Hd;rw[aaj (by have:=a8.o;omega)]
     rw[cB.o]at a7;have E:=a7.o;have aa:=ap.o.below E.bel;obtain⟨aO,aI⟩:=jj.ofOwn (s:=G) E.own;obtain⟨b1,ed,c5⟩:=G;simp only at aO aI;rw[FN]at aI;subst aI;have e9:wr.cell? ⟨u.heap.size,0,none⟩=some (.int .i64 j):=E.row.cell 0 (by simp);have bC:wr.cell? ⟨u.heap.size,1,none⟩=some (.slice b1 g.length c5):=E.row.cell 1 (by simp);have bE:py wr F M K j b1 g.length (g.map Gy) (g.map Gv) ⟨Fz f.a f.cap e.1 1,e.2,f.cap - e.1⟩ (g.map (·.b)):=py.up cg.o ch.o am.o (fun b k=>⟨(al.o b k).1.below E.bel,(al.o b k).2⟩) aO (be.o.below_all E.bel) a8.o ca.o;have b3:Hd (Calls _ _ _ _ _):=aX F H T V M K j b1 g.length c5 (g.map Gy) (g.map Gv) ⟨Fz f.a f.cap e.1 1,e.2,f.cap - e.1⟩ (g.map (·.b)) wr aa.row aa.known (by omega) bE;have Y:Hd (Jz o F T V L N (fun c=>∃b∈d,Sq b c) wr H M K I t):=aa;have bb:Hd (wr.ownsRow o.heap.size 128 1 (.slice (some ⟨ar,aT,none⟩) c4 c3) h.length (h.map (Uq f.a f.cap 1))):=lj an.o E.bel;have b5:Hd (∀Q,((∃J∈g.map Gy,∃ah,J.k.a=some ah/\ah.block=Q)\/Q∈g.map (·.b))->∃b∈d,Sq b Q):=fun Q k=>by
      rcases k with⟨J,P,ah,a6,k⟩|k
      .obtain⟨b,O,rfl⟩:=vN.1 P;exact⟨b,bd.o b O,RM (SM ⟨ah,a6,k⟩)⟩
      .obtain⟨b,O,rfl⟩:=vN.1 k;exact⟨b,bd.o b O,SM rfl⟩
     have co:Hd (∀(W:World) (b:Nd),Nk wr F H T V M K j (g.map Gy) (g.map Gv) (g.map (·.b)) b W->(W.alloc (.cells #[.pointer (some ⟨b.b,0,none⟩)] 138)).ownsRow o.heap.size 138 1 (.slice I.a I.n I.cap) t.length (t.map (fun J=>Cj J.b))/\o.heap.size<=(W.alloc (.cells #[.pointer (some ⟨b.b,0,none⟩)] 138)).heap.size/\W.ownsRow o.heap.size 128 1 (.slice (some ⟨ar,aT,none⟩) c4 c3) h.length (h.map (Uq f.a f.cap 1))):=fun W b a5=>by
      obtain⟨_,_,_,_,_,_,_,_,_,_,b0,_⟩:=a5;have U:=ij Y.o.own b0 (fun c X=>(Y.o.onew c X).1);refine⟨U.alloc _,?_,ij bb.o b0 (Bj.ne Y.o.row Y.o.known bb.o (by decide) (by decide))⟩;have:=Y.o.frame.size;have:=b0.size;simp;omega
     have c7:Hd (∀b:Nd,∀ag∈[Value.pointer (some ⟨b.b,0,none⟩)],ag.oneCell'=true):=fun b ag bT=>by simp at bT;subst bT;rfl
     clear E aa aO bE bn;unfold dj.val at b3;go_wp2_with (first
      |(go_at_call 137;refine b3.o.mono ?_;rintro R W ⟨b,rfl,a5⟩;obtain⟨bB,dm,bP⟩:=co.o W b a5)
      |(at_builtin;refine rq (by rfl) (.tmp 44) (.tmp 49) 128 (by rfl) o.heap.size 138 _ 1 8 Tryz.underlying128 Tryz.infoNodeP rfl (by decide) (.slice I.a I.n I.cap) t.length (t.map (fun J=>Cj J.b)) (by rfl) bB (some ⟨W.heap.size,0,none⟩) 1 1 [.pointer (some ⟨b.b,0,none⟩)] (by rfl) rfl (jj.alloc_new W _ _) (fun k=>by cases k) (c7.o b) (by have:=b9.o;unfold maxLen;omega) (by have:=b9.o;omega) dm ?_;intro ec du ae ab bh;obtain⟨a1,a2,dl,_⟩:=Nj ae;subst dl))
     have ad:=a5;obtain⟨_,_,_,_,_,au,av,ax,_⟩:=ad;obtain⟨dp,cR,di⟩:=Y.o.step (o':=⟨a1,t.length+1,a2⟩) a5 (fun Q a4 _=>RM (b5.o Q a4)) (fun Q a4 R=>by have:=ck.o Q (b5.o Q a4);have:=(Y.o.own.lt Q R).1;omega) ae tO ab bh;refine⟨⟨c+1,H+1,dp,cR,⟨a1,t.length+1,a2⟩,t++[b],by omega,by go_num,rfl,by omega,di,?_,?_,?_,?_⟩,by simp[intOf];omega⟩
     .unfold Hd;rw[cD.o,rN,ak.o];simp[av,cr.o]
     .intro J P;rcases fN.1 P with P|P
      .exact b8.o J P
      .simp only[eN]at P;subst P;exact au
     .unfold Hd;rw[cA.o,rN,b2.o,cs.o];simp[ax]
     .exact ij (bP.alloc _) ab (fun Q a4 R=>Dv (bP.alloc _) bB (by decide) Q a4 R)
  .obtain rfl:c=q.n:=by omega
   have b7:Hd (h.take q.n=h):=by unfold Hd;rw[ao.o,raj]
   unfold dj.val;go_wp2;go_ret;exact⟨I,t,H,M,K,rfl,ap.o,by omega,by rw[ak.o,b7.o,ce.o],b8.o,by rw[b2.o,b7.o]⟩
structure yz(lvls:List (List (List ej)))(L:List (List Nd)):Prop where
 its:L.map (fun nds=>nds.map (·.its))=lvls.map (fun ps=>ps.map Nq)
 lev:∀(ℓ:Nat) (nds:List Nd),L[ℓ]? =some nds->∀x∈nds,x.level=ℓ
 low:∀(nds:List Nd),L[0]? =some nds->∀x∈nds,x.bl=[]
 bel:∀(ℓ:Nat) (nds up:List Nd) (ps:List (List ej)),L[ℓ]? =some nds->L[ℓ+1]? =some up->lvls[ℓ+1]? =some ps->up.map (·.bl)=ps.map (fun p=>p.map (fun it=>((nds[it.below]?).map (·.b)).getD 0))
theorem NX(c:Nat)(a:List ej):∀b,Ej c (Nq a) b=Ej c a b
 |0=>rfl
 |b+1=>by
  have d:((Nq a)[b]?.map (·.key)).getD []=(a[b]?.map (·.key)).getD []:=by
   unfold Nq;rw[zN];cases a[b]? <;>rfl
  have e:(Nq a).length=a.length:=by simp[Nq]
  unfold Ej;rw[d,e,NX c a b]
theorem IU(b:Nat)(a:List ej):Tz b (Nq a)=Tz b a:=by
 unfold Tz;rw[NX];simp[Nq]
theorem DZ(b:Nat):∀(a:Nat) (c:List (List ej)),(bq b a c).length=c.length
 |_,[]=>rfl
 |a,e::d=>by simp[bq,DZ b (a+1) d]
theorem OX{g:Type}(c:Nat)(b:Nat->g):∀(d:List (List ej)) (a:Nat),(bq c a d).map (fun e=>b e.below)=(List.range' a d.length).map b
 |[],_=>rfl
 |h::f,a=>by
  have:=OX c b f (a+1);simp only[bq,ZM,uN,List.range'_succ];rw[this]
theorem lW(d:Nat)(c:List (List ej))(a:List Nd)(e:a.length=c.length):(bq d 0 c).map (fun h=>((a[h.below]?).map (·.b)).getD 0)=a.map (·.b):=by
 rw[OX d (fun b=>((a[b]?).map (·.b)).getD 0) c 0,<-e]
 apply List.ext_getElem
 .simp
 .intro b i f;have g:b<a.length:=by simpa using f
  simp[g]
theorem jG(d:Nat)(a:List ej)(e:List Nd)(c:ej->Nat)(f:a.map c=e.map (·.b))(g:a≠[]):
  (nj d a).map (fun h=>h.map c)=(Tz d a).map (fun b=>((e.drop b.1).take b.2).map (·.b)):=by
 rw[<-LJ d a g,Baj]
 apply Haj
 intro b _;show((a.drop b.1).take b.2).map c=_;rw[Qaj,List.map_drop,f,Qaj,List.map_drop]
structure fy(its:List ej)(ℓ:Nat)(nds:List Nd)(L:List (List Nd))(lr:List ej)(pre:List (List (List ej))):Prop where
 gr:Rj its=pre++Eq (7 - ℓ) ℓ lr
 pl:pre.length=ℓ
 rep:yz (pre++[nj ℓ lr]) L
 ll:L.length=ℓ+1
 top:L[ℓ]? =some nds
theorem fy.start{b:List ej}{d:List Nd}(k:d.map (·.its)=nj 0 b)(m:∀c∈b,c.below=0)(f:∀g∈d,g.level=0/\g.bl=[]):fy b 0 d [d] b []:=by
 have j:(nj 0 b).map Nq=nj 0 b:=by rw[<-MJ,PY m]
 refine⟨rfl,rfl,⟨?_,?_,?_,?_⟩,rfl,rfl⟩
 .simp[k,j]
 .intro i h a c e;cases i with
  |zero=>simp at a;subst a;exact(f c e).1
  |succ p=>simp at a
 .intro h a c e;simp at a;subst a;exact(f c e).2
 .intro i h r q n l o;simp at l
theorem fy.its'{g:List ej}{c:Nat}{e:List Nd}{f:List (List Nd)}{d:List ej}{i:List (List (List ej))}(a:fy g c e f d i):e.map (·.its)=(nj c d).map Nq:=by
 have b:=congrArg (fun h=>h[c]?) a.rep.its;simp only[zN,a.top]at b;rw[MN (by rw[a.pl];exact TM _),a.pl,Aaj]at b;simpa using b
theorem fy.up{i:List ej}{a:Nat}{b:List Nd}{f:List (List Nd)}{e:List ej}{k:List (List (List ej))}(d:fy i a b f e k):b.map Gv=Nq (bq a 0 (nj a e)):=by
 rw[VQ];have g:b.map Gv=(b.map (·.its)).map (vw a):=by
  rw[Baj]
  apply Haj
  intro c h;show vw c.level c.its=vw a c.its;rw[d.rep.lev a b d.top c h]
 rw[g,d.its',Baj]
 apply Haj
 intro j _;exact dU a j
theorem fy.next{w:List ej}{b:Nat}{d j:List Nd}{h:List (List Nd)}{g:List ej}{x:List (List (List ej))}(a:fy w b d h g x)(B:d.length≠1)(K:b<6)(o:j.map (·.its)=nj (b+1) (d.map Gv))(A:∀F∈j,F.level=b+1)
  (p:j.map (·.bl)=(Tz (b+1) (d.map Gv)).map (fun s=>((d.drop s.1).take s.2).map (·.b))):fy w (b+1) j (h++[j]) (bq b 0 (nj b g)) (x++[nj b g]):=by
 have u:d.length=(nj b g).length:=by simpa using congrArg List.length a.its'
 have v:=KJ b g;have D:bq b 0 (nj b g)≠[]:=fun z=>by have:=congrArg List.length z;rw[DZ]at this;simp at this;rw[this]at v;simp at v
 rw[a.up]at o p;rw[MJ]at o;rw[IU]at p;refine⟨?_,by simp[a.pl],⟨?_,?_,?_,?_⟩,by simp[a.ll],?_⟩
 .rw[a.gr];obtain⟨n,C⟩:∃n,7 - b=n+1:=⟨6 - b,by omega⟩;rw[C,Eq,if_neg (by rw[<-u];exact B),show 7 - (b+1)=n by omega];simp
 .rw[rN,rN,a.rep.its];simp[o]
 .intro c r f m l;by_cases q:c<h.length
  .rw[DN q]at f;exact a.rep.lev c r f m l
  .rw[MN (by omega)]at f;obtain⟨I,y⟩:=kN.1 f;simp at I y;subst y;rw[A m l];have:=a.ll;omega
 .intro r t m l;rw[DN (by have:=a.ll;omega)]at t;exact a.rep.low r t m l
 .intro c E H G k e i;by_cases q:c+1<h.length
  .rw[DN (by omega)]at k;rw[DN q]at e;rw[DN (by have:=a.ll;simp[a.pl];omega)]at i;exact a.rep.bel c E H G k e i
  .have J:c+1<=h.length:=by
    have:=(kN.1 e).1;simp at this;omega
   have f:c=b:=by have:=a.ll;omega
   subst f;rw[DN (by have:=a.ll;omega),a.top]at k;cases k;rw[MN (by have:=a.ll;omega),a.ll,Aaj]at e;simp at e;subst e;rw[MN (by simp[a.pl])]at i;simp[a.pl]at i;subst i;rw[p];exact(jG (c+1) _ d _ (lW c _ d u) D).symm
 .rw[MN (by have:=a.ll;omega),a.ll];simp
theorem fy.fin{f:List ej}{a:Nat}{h:Nd}{c:List (List Nd)}{g:List ej}{k:List (List (List ej))}(b:fy f a [h] c g k)(l:a<=6):yz (Rj f) c/\c.length=a+1/\c[a]? =some [h]:=by
 have j:1=(nj a g).length:=by simpa using congrArg List.length b.its'
 have d:=b.gr;obtain⟨e,i⟩:∃e,7 - a=e+1:=⟨6 - a,by omega⟩;rw[i,Eq,if_pos j.symm]at d;rw[d];exact⟨b.rep,b.ll,b.top⟩
structure bx(es0:List Tj)(InF:Nat->Prop)(n0:Nat)(M:Nat->Prop)(w:World)(L:List (List Nd)):Prop where
 good:∀nds∈L,∀x∈nds,uq w x/\∀k,Sq x k->¬M k
 foot:∀nds∈L,∀x∈nds,∀k,Sq x k->k<n0->Iv es0 k\/InF k
theorem bx.next{o:List Tj}{k:Nat->Prop}{p:Nat}{h m n:Nat->Prop}{j q:World}{l:List (List Nd)}(b:bx o k p h j l)(t:bj n j q)(s:∀a,n a->h a)(r:∀a,m a->a<j.heap.size->h a):bx o k p m q l:=
 ⟨fun f d g e=>⟨(b.good f d g e).1.frame t (fun a c i=>(b.good f d g e).2 a c (s a i)),fun a c i=>(b.good f d g e).2 a c (r a i ((b.good f d g e).1.lt a c))⟩,b.foot⟩
theorem bx.frame{i:List Tj}{g:Nat->Prop}{k:Nat}{h S:Nat->Prop}{l m:World}{c:List (List Nd)}(d:bx i g k h l c)(o:bj S l m)(n:∀a∈c,∀b∈a,∀j,Sq b j->¬S j):bx i g k h m c:=
 ⟨fun a e b f=>⟨(d.good a e b f).1.frame o (n a e b f),(d.good a e b f).2⟩,d.foot⟩
theorem bx.below{d:List Tj}{a:Nat->Prop}{e:Nat}{c:Nat->Prop}{w w':World}{b:List (List Nd)}(g:bx d a e c w b)(h:Below w.heap.size w w'):bx d a e c w' b:=g.frame (bj.of_below_all (S:=fun _=>False) h) (fun _ _ _ _ _ _ f=>f)
theorem bx.less{d:List Tj}{a:Nat->Prop}{f g:Nat}{c:Nat->Prop}{h:World}{b:List (List Nd)}(e:bx d a f c h b)(p:g<=f):bx d a g c h b:=⟨e.good,fun m j n k l i o=>e.foot m j n k l i (by omega)⟩
theorem bx.snoc{g:List Tj}{e:Nat->Prop}{i:Nat}{f:Nat->Prop}{k:World}{L:List (List Nd)}{j:List Nd}(l:bx g e i f k L)(m:∀b∈j,uq k b/\∀c,Sq b c->¬f c)(n:∀b∈j,∀c,Sq b c->c<i->Iv g c\/e c):bx g e i f k (L++[j]):=by
 refine⟨fun h a b d=>?_,fun h a b d=>?_⟩
 all_goals
  rcases fN.1 a with a|a
 .exact l.good h a b d
 .simp only[eN]at a;subst a;exact m b d
 .exact l.foot h a b d
 .simp only[eN]at a;subst a;exact n b d
theorem OH(f K:Nat)(n t:dj)(r:Option Nat)(j:List Tj)(m:List Pj)(d:List ej)(h:World)(aR:qq h f n r t)(aP:Oj h f r j K)(b6:K<=800000)(al:Iz h n m d)(ak:d.length<=60)(ap:∀R∈d,Dq R)(ab:∀R∈d,R.below=0)(H:∀w,tx n m w->¬Bj f r j w):
  CP 81 #[.pointer (some ⟨f,1,none⟩),n.val] h fun y u=>∃(B:dj) (c:Nd) (v:Nat) (q:Option Nat) (o:List Tj),y=.returned (.pointer (some ⟨c.b,0,none⟩))/\Jz h f n t r j (Nv m) u v q o B [c]/\v<=K+500/\(c.level,c.its)=Wy 7 0 d/\∃(e:List (List Nd)) (b:Nat),yz (Rj d) e/\e.length=b+1/\e[b]? =some [c]/\bx j (Nv m) h.heap.size (Bj f q o) u e:=by
 have af:Hd (Calls _ _ _ _ _):=GU f K n t r j m d h aR aP (by omega) al ak ap ab H;have aE:Hd ((nj 0 d).length<=60):=by
  unfold Hd;by_cases an:d=[]
  .subst an;simp[nj,pq]
  .have:=Kx 0 d [] an;unfold nj;omega
 have aD:Hd (∀R∈d,R.below=0):=ab;clear al H ab ap ak;unfold dj.val at af⊢;go_enter Tryz.func81,Tryz.ntmps81;go_wp2_with (go_at_call 116;refine af.o.mono ?_;rintro y av ⟨B,g,v,I,E,rfl,a0,b4,Z,aa⟩);have x:Hd (Jz h f n t r j (Nv m) av v I E B g/\g.map (·.its)=nj 0 d/\(∀c∈g,c.level=0)/\g.length<=60/\fy d 0 g [g] d []/\bx j (Nv m) h.heap.size (Bj f I E) av [g]):=⟨a0,Z,fun c U=>(aa c U).1,by have S:=congrArg List.length Z;have ai:=aE.o;rw[FN]at S;omega,fy.start Z aD.o aa,bx.snoc (L:=[]) ⟨fun b0 P=>(by cases P),fun b0 P=>(by cases P)⟩ a0.nodes a0.nfoot⟩;clear a0 Z aa
 go_loopw [5,6] (fun b1 ae wr=>∃(b v:Nat) (I:Option Nat) (E:List Tj) (B:dj) (g:List Nd),b<=6/\ae=.int .i64 ((b:Int)+1)/\b1=B.val/\v<=K+61*(b+1)/\Hd (∃p,Jz h f n t r j (Nv m) wr v I E B g/\g.map (·.its)=nj b p/\(∀c∈g,c.level=b)/\g.length<=60/\Wy (7 - b) b p=Wy 7 0 d/\∃e a1 a2,fy d b g e a1 a2/\bx j (Nv m) h.heap.size (Bj f I E) wr e)) (fun _ ae _=>8 - (intOf ae).toNat)
 case atStart=>exact⟨0,v,I,E,B,g,by omega,by simp,rfl,by omega,d,x.o.1,x.o.2.1,x.o.2.2.1,x.o.2.2.2.1,rfl,[g],d,[],x.o.2.2.2.2.1,x.o.2.2.2.2.2⟩
 case round=>
  clear x;obtain⟨b,a5,Q,M,C,l,ad,rfl,rfl,b5,a4⟩:=hrel;obtain⟨p,k,O,X,a9,W,e,a1,a2,G,Y⟩:=a4.o;have ac:=(vj (a:=C.a) (n':=C.n) (cap:=C.cap) k.own).1;have A:l.length=(nj b p).length:=by have:=congrArg List.length O;simpa using this
  have ar:=KJ b p;by_cases V:l.length=1
  .obtain⟨c,rfl⟩:∃c,l=[c]:=by
    match l,V with
    |[c],_=>exact⟨c,rfl⟩
   obtain⟨ag,au,ao,aS,am⟩:=(jj.ofOwn (s:=C) k.own).1 0 (by simp);obtain⟨ba,bb,b2⟩:=C;simp only at ao ac;subst ao ac;have b7:wr.cell? ⟨ag,au,none⟩=some (.pointer (some ⟨c.b,0,none⟩)):=by simpa[Cj]using am
   have aA:Hd ((c.level,c.its)=Wy 7 0 d):=by
    unfold Hd;rw[<-W];obtain⟨F,H⟩:∃F,7 - b=F+1:=⟨6 - b,by omega⟩;rw[H,Wy,if_pos (by rw[<-A];rfl),<-O,X c (by simp)];rfl
   have aI:Hd (Jz h f n t r j (Nv m) wr a5 Q M ⟨some ⟨ag,au,none⟩,1,b2⟩ [c]):=k;have aB:Hd (∃(e:List (List Nd)) (b:Nat),yz (Rj d) e/\e.length=b+1/\e[b]? =some [c]/\bx j (Nv m) h.heap.size (Bj f Q M) wr e):=⟨e,b,(G.fin ad).1,(G.fin ad).2.1,(G.fin ad).2.2,Y⟩;clear k O X a9 W A ar a4 am V aS G Y;unfold dj.val;go_wp2;go_ret;exact⟨_,c,a5,Q,M,rfl,aI.o,by omega,aA.o,aB.o⟩
  .have a7:1<l.length:=by omega
   have aT:b<6:=by
    by_cases U:b<6
    .exact U
    .exfalso;have:=sJ b U p [];unfold nj at A;rw[this]at A;simp at A;omega
   have b8:(1:Int)<(C.n:Int):=by omega
   have aO:Hd (l.map Gv=(nj b p).map (vw b)):=by
    unfold Hd;rw[<-O,Baj]
    apply Haj
    intro c P;show vw c.level c.its=vw b c.its;rw[X c P]
   have a3:Hd (Calls _ _ _ _ _):=iG f a5 (b+1) n t Q M C l wr k.row k.known (by omega) (by omega) (by omega) (by intro y;rw[y]at a7;simp at a7) a9 (Hj k.own (fun w _=>nN _)) (fun w a8=>(k.onew w a8).1) k.nodes;have aC:Hd (∀(u:World) (J:dj) (i:List Nd) (D:Nat) (q:Option Nat) (o:List Tj),Jz wr f n t Q M (fun w=>∃c∈l,Sq c w) u D q o J i->i.map (·.its)=nj (b+1) (l.map Gv)->(∀c∈i,c.level=b+1)->i.map (·.bl)=(Tz (b+1) (l.map Gv)).map (fun ah=>((l.drop ah.1).take ah.2).map (·.b))->∃p,Jz h f n t r j (Nv m) u D q o J i/\i.map (·.its)=nj (b+1) p/\(∀c∈i,c.level=b+1)/\i.length<=60/\Wy (7 - (b+1)) (b+1) p=Wy 7 0 d/\∃e a1 a2,fy d (b+1) i e a1 a2/\bx j (Nv m) h.heap.size (Bj f q o) u e):=fun u J i D q o z N T a6=>by
    refine⟨l.map Gv,k.compose z,N,T,?_,?_,e++[i],_,_,G.next V aT N T a6,(Y.next z.frame (fun w a8=>a8) z.muts).snoc (k.compose z).nodes (k.compose z).nfoot⟩
    .have S:=congrArg List.length N;have ai:=Kx (b+1) (l.map Gv) [] (by intro y;have:=congrArg List.length y;simp at this;subst this;simp at a7);unfold nj at S;simp at S ai;omega
    .rw[aO.o,<-W];obtain⟨F,H⟩:∃F,7 - b=F+1:=⟨6 - b,by omega⟩;rw[H,Wy,if_neg (by rw[<-A];exact V),show 7 - (b+1)=F by omega]
   clear k O X a9 W A ar a4 ac G Y;have b9:(b:Int)<=6:=by omega
   have ax:Hd (((b+1:Nat):Int)=(b:Int)+1):=by unfold Hd;omega
   rw[ax.o]at a3;unfold dj.val at a3⊢;go_wp2_with (go_at_call 117;refine a3.o.mono ?_;rintro y u ⟨J,i,D,q,o,rfl,z,b3,N,T,a6⟩);refine⟨⟨b+1,D,q,o,J,i,by omega,by go_num,rfl,by omega,aC.o u J i D q o z N T a6⟩,by simp[intOf];omega⟩
end Go.Proofs.YtekegfbjbainhaaGreat
