import Derived.Deep.RegionLaw
import Derived.Deep.DeepCutAuto
import Derived.Deep.CutBlock
import Derived.Test.YtekegfbjbainhaaGreatKJoin34
import Derived.BigQuiet
set_option maxRecDepth 100000
set_option maxHeartbeats 8000000
set_option linter.unusedVariables false
set_option linter.unusedSimpArgs false
namespace Go.Proofs.YtekegfbjbainhaaGreat
open Go.RowKit
attribute [local go_sem↓] Go.wp_at_zero Go.wp_at_succ
theorem lV{i:Array Oper}{b:Oper}{a:Act}{j:World}{f:Act->World->Prop}{m:Exit->Act->World->Prop}{l:Prop}(o:b.guard=none)(s:TypeId)(c:Nat)(q:b.op=.call {callee:=.value (.func 30),args:=#[.tmp c],argTypes:=#[s]})
  (e:Value)(h:a.eval (.tmp c)=e)(n:CP 30 #[e] j fun g k=>∃d,g=.returned d/\f (a.put b.dst d) k):if Region.wanted b (yielded i a.tmps)=true then Oper.wp Tryz.prog b a j f m else l:=by
 have r:Region.wanted b (yielded i a.tmps)=true:=by simp[Region.wanted,o]
 have t:a.tmps[c]?.getD undef=e:=by rw[<-h];simp[Act.eval,WN]
 rw[if_pos r];unfold Oper.wp execOp;simp only[q,List.map_toArray,ZM,dN,h];go_simp;refine n.mono ?_;rintro g k ⟨d,rfl,p⟩;exact p
theorem mV(z C a6:dj)(a b M aA:List UInt8)(f:World)(bD:aA.length=8)(al:BS f z a)(am:BS f C b)(bB:BS f a6 M)(bC:a6.n<=a6.cap)(bs:a.length<=maxLen)(bI:b.length<=maxLen)(b3:M.length<=1000000000):
  CP 68 #[dV aA,z.val,C.val,a6.val] f (LL f (Ey aA a b M)):=by
 obtain⟨m,n,o,p,q,r,t,u,rfl⟩:=uj aA bD;have Q:Below f.heap.size f (f.alloc (.cells (cO m n o p q r t u) 36)):=tO;have a1:Hd (Calls _ _ _ _ _):=PZ z C a b (f.alloc (.cells (cO m n o p q r t u) 36)) (al.below Q) (am.below Q) bs bI;have aP:Hd (Calls _ _ _ _ _):=DQ z C a6 a b M [m,n,o,p,q,r,t,u] (f.alloc (.cells (cO m n o p q r t u) 36)) rfl (al.below Q) (am.below Q) (bB.below Q) bC b3;rw[show dV [m,n,o,p,q,r,t,u]=.agg (cO m n o p q r t u)from rfl]at aP⊢;have aD:Hd (BB f (f.alloc (.cells (cO m n o p q r t u) 36))):=Q;have P:Hd (aj (f.alloc (.cells (cO m n o p q r t u) 36)) f.heap.size 36 ([m,n,o,p,q,r,t,u].map fj)):=aj.new f 36 ([m,n,o,p,q,r,t,u].map fj);have bc:Hd (BS (f.alloc (.cells (cO m n o p q r t u) 36)) z a):=al.below Q;have bi:Hd (BS (f.alloc (.cells (cO m n o p q r t u) 36)) C b):=am.below Q;have c8:Hd (M.length<=1000000000):=b3;obtain⟨k,w⟩:∃k,Ey [m,n,o,p,q,r,t,u] a b M=k:=⟨_,rfl⟩;rw[w];have bh:Hd (Ey [m,n,o,p,q,r,t,u] a b M=k):=w;unfold dj.val at a1⊢;clear bD al am bB bC bs bI b3 w Q;go_enter Tryz.func68,Tryz.ntmps68;go_upto_region 1 with fail;generalize f.alloc (.cells (cO m n o p q r t u) 36)=A at*;cases ax:Qx a b with
 |false=>
  rw[ax]at a1;have a8:Hd (k=(1,[])):=by unfold Hd;rw[<-bh.o];unfold Ey;rw[if_neg (by rw[ax];simp)]
  go_wp2_with (go_at_call 91;refine a1.o.mono ?_;rintro cS ba ⟨rfl,ac⟩;obtain rfl:A=ba:=ac.symm;clear ac)
  go_ret2
  rw[a8.o];exact⟨⟨none,0,0⟩,[],rfl,aD.o,oz.nil _ _⟩
 |true=>
  rw[ax]at a1;have a8:Hd (k=match oJ [m,n,o,p,q,r,t,u] a b M with
    |none=>(5,[])
    |some cR=>(0,cR)):=by unfold Hd;rw[<-bh.o];unfold Ey;rw[if_pos ax];cases oJ [m,n,o,p,q,r,t,u] a b M<;>rfl
  have cv:A.cell? ⟨f.heap.size,0,none⟩=some (.int .u8 m.toNat):=P.o.cell 0 (by simp);have cA:A.cell? ⟨f.heap.size,1,none⟩=some (.int .u8 n.toNat):=P.o.cell 1 (by simp);have cB:A.cell? ⟨f.heap.size,2,none⟩=some (.int .u8 o.toNat):=P.o.cell 2 (by simp);have cC:A.cell? ⟨f.heap.size,3,none⟩=some (.int .u8 p.toNat):=P.o.cell 3 (by simp);have cD:A.cell? ⟨f.heap.size,4,none⟩=some (.int .u8 q.toNat):=P.o.cell 4 (by simp);have cE:A.cell? ⟨f.heap.size,5,none⟩=some (.int .u8 r.toNat):=P.o.cell 5 (by simp);have cI:A.cell? ⟨f.heap.size,6,none⟩=some (.int .u8 t.toNat):=P.o.cell 6 (by simp);have cP:A.cell? ⟨f.heap.size,7,none⟩=some (.int .u8 u.toNat):=P.o.cell 7 (by simp);go_wp2_with (go_at_call 91;refine a1.o.mono ?_;rintro cS ba ⟨rfl,ac⟩;obtain rfl:A=ba:=ac.symm;clear ac);refine aP.o.mono ?_;rintro L y ⟨an,ar⟩;have ae:Hd (BB f y):=aD.o.trans (an.mono aD.o.size);have c5:Hd (BS y z a):=bc.o.below an;have ce:Hd (BS y C b):=bi.o.below an;clear cv cA cB cC cD cE cI cP aP a1 an P bc bi;cases a0:Hy [m,n,o,p,q,r,t,u] a b M with
  |none=>
   rw[a0]at ar;obtain rfl:L=_:=ar;have cb:Hd (k=(5,[])):=by unfold Hd;rw[a8.o,rQ,a0];rfl
   go_wp2
   go_ret2
   rw[cb.o];exact⟨⟨none,0,0⟩,[],rfl,ae.o,oz.nil _ _⟩
  |some h=>
   rw[a0]at ar;obtain⟨U,aC,rfl,R⟩:=ar;have ca:Hd (k=(0,h.filter (yv a b))):=by unfold Hd;rw[a8.o,rQ,a0];rfl
   have bO:U.n=aC.length:=(jj.ofOwn (s:=U) R.own).2;have ah:Hd (U.n=h.length):=by unfold Hd;rw[bO,R.len]
   have aO:Hd (h.length<=1000000000):=WM (PG _ _ _ _ _ a0) c8.o;have c7:Hd (∀bS∈h,bS.key.length<=12/\bS.more.length<=12):=tK _ _ _ _ _ a0;have bb:Hd (lz 0 y (Oq a6) A.heap.size U aC h):=R;have ct:(U.n:Int)<=1000000000:=by rw[ah.o];have:=aO.o;omega
   clear a0 R bO a8;unfold dj.val;go_wp2
   go_loopw [12,14,31] (fun b9 _ b6 wr=>∃(d:Nat) (B:dj) (S:List (dj×dj)),d<=h.length/\b6=.int .i64 d/\b9=.slice B.a B.n B.cap/\Hd (BB y wr)/\Hd (oz wr y.heap.size B S ((h.take d).filter (yv a b)))) (fun _ _ b6 _=>h.length - (intOf b6).toNat)
   case atStart=>exact⟨0,⟨none,0,0⟩,[],by omega,by simp,rfl,VM _ _,oz.nil _ _⟩
   case round=>
    obtain⟨d,B,S,d5,rfl,rfl,Y,V⟩:=hrel;have d6:(d:Int)<=1000000000:=by have:=aO.o;omega
    by_cases ab:d<h.length
    .have bv:(d:Int)<U.n:=by rw[ah.o];omega
     have bw:d<aC.length:=by rw[bb.o.len];exact ab
     have ap:=bb.o.below Y.o;obtain⟨bl,bR,bp,d4,bE⟩:=Mk.range (jj.ofOwn (s:=U) ap.own).1 ap.d8 d bw;have R:=ap.en d bw ab;have bk:Hd ((h.take (d+1)).filter (yv a b)=(h.take d).filter (yv a b)++(if yv a b h[d]=true then[h[d]]else[])):=by
      unfold Hd;rw[RN ab,List.filter_append]
      congr 1
      cases cl:yv a b h[d]<;>simp[cl]
     have bA:=c7.o _ (bN ab);generalize aC[d]=d0 at*;generalize h[d]=g at*;obtain⟨c,e,ci⟩:=d0;obtain⟨D,E,F,G,H,I,J,K,rfl⟩:=uj ci R.d8;have cc:Hd (wr.rangeAt bl (bR+d*10) [.slice c.a c.n c.cap,.slice e.a e.n e.cap,.int .u8 D.toNat,.int .u8 E.toNat,.int .u8 F.toNat,.int .u8 G.toNat,.int .u8 H.toNat,.int .u8 I.toNat,.int .u8 J.toNat,.int .u8 K.toNat]):=bE;have a4:Below wr.heap.size wr (wr.alloc (.cells (xO c e D E F G H I J K) 74)):=tO;have a7:Hd (BB wr (wr.alloc (.cells (xO c e D E F G H I J K) 74))):=a4;have ai:Hd (aj (wr.alloc (.cells (xO c e D E F G H I J K) 74)) wr.heap.size 74 [.slice c.a c.n c.cap,.slice e.a e.n e.cap,.int .u8 D.toNat,.int .u8 E.toNat,.int .u8 F.toNat,.int .u8 G.toNat,.int .u8 H.toNat,.int .u8 I.toNat,.int .u8 J.toNat,.int .u8 K.toNat]):=aj.new wr _ _;have aR:Hd (BS (wr.alloc (.cells (xO c e D E F G H I J K) 74)) c g.key):=R.key.bs.below a4;have cd:Hd (BS (wr.alloc (.cells (xO c e D E F G H I J K) 74)) e g.more):=(R.low rfl).1.bs.below a4;have c6:Hd (BS (wr.alloc (.cells (xO c e D E F G H I J K) 74)) z a):=(c5.o.below Y.o).below a4;have cg:Hd (BS (wr.alloc (.cells (xO c e D E F G H I J K) 74)) C b):=(ce.o.below Y.o).below a4;obtain⟨d9,db,da⟩:=U;simp only at bp bv ct ah;subst bp;clear bE R a4 ap
     go_upto_block 1 with fail
     go_cut [12] (fun b9 aB=>∃(a5:dj) (b8:List (dj×dj)),b9=.slice a5.a a5.n a5.cap/\Hd (BB y aB)/\Hd (oz aB y.heap.size a5 b8 ((h.take (d+1)).filter (yv a b))))
     case first=>
      go_upto_region 10 with(refine wpList_load_mid (by rfl) 74 (.tmp 33) (by rfl) bl (bR+d*10) (by rfl) [.slice c.a c.n c.cap,.slice e.a e.n e.cap,.int .u8 D.toNat,.int .u8 E.toNat,.int .u8 F.toNat,.int .u8 G.toNat,.int .u8 H.toNat,.int .u8 I.toNat,.int .u8 J.toNat,.int .u8 K.toNat] _ cc.o Tryz.underlying74 rfl Tryz.sizeEntryB ?_);generalize wr.alloc (.cells (xO c e D E F G H I J K) 74)=l at*;have a9:Hd (y.heap.size<=wr.heap.size):=Y.o.size;have b1:=ai.o.cell 0 (by simp);have b2:=ai.o.cell 1 (by simp);simp only[cN,gN]at b1 b2;have ag:Hd (Calls _ _ _ _ _):=Hv c z g.key a l aR.o c6.o;have aE:Hd (Calls _ _ _ _ _):=Hv c C g.key b l aR.o cg.o;have be:=Tx g.key a;have bf:=Tx g.key b;have c3:=aw g.key a;have c4:=aw g.key b;have bd:Hd (yv a b g=(!(Op.bytesLess g.key a)&&Op.bytesLess g.key b)):=rfl;generalize Lib.compareBytes g.key a=Z at*;generalize Lib.compareBytes g.key b=bm at*;have aI:Hd (yv a b g=(decide (0<=Z)&&decide (bm<0))):=by
       unfold Hd;rw[bd.o];have ck:Op.bytesLess g.key a=decide (Z<0):=by rw[caj];simp[be]
       have ak:Op.bytesLess g.key b=decide (bm<0):=by rw[caj];simp[bf]
       rw[ck,ak];by_cases ao:0<=Z
       .have:¬Z<0:=by omega
        simp[ao,this]
       .have:Z<0:=by omega
        simp[ao,this]
      unfold dj.val at ag aE;clear be bf bd
      go_cut [46] (fun ch aB=>ch=.bool (yv a b g)/\aB=l)
      case first=>
       by_cases ao:0<=Z
       .go_wp2_with (first
         |(go_at_call_of 63 (Value.slice z.a z.n z.cap);refine ag.o.mono ?_;rintro L X ⟨rfl,W⟩;obtain rfl:l=X:=W.symm;clear W)
         |(go_at_call_of 63 (Value.slice C.a C.n C.cap);refine aE.o.mono ?_;rintro L X ⟨rfl,W⟩;obtain rfl:l=X:=W.symm;clear W))
        go_meet
        case rel=>exact⟨by rw[aI.o];simp[ao],rfl⟩
       .go_wp2_with (go_at_call_of 63 (Value.slice z.a z.n z.cap);refine ag.o.mono ?_;rintro L X ⟨rfl,W⟩;obtain rfl:l=X:=W.symm;clear W);go_meet
        case rel=>
         have cp:¬0<=Z:=by omega
         exact⟨by rw[aI.o];simp[cp],rfl⟩
      case rest=>
       obtain⟨rfl,bP⟩:=hcut;obtain rfl:l=wc:=bP.symm;clear bP ag aE aI c3 c4;have c1:Hd (∀x,BB l x->CP 30 #[.slice c.a c.n c.cap] x fun L ad=>∃T:dj,L=.returned (.slice T.a T.n T.cap)/\rj ad x.heap.size T.val g.key/\Below x.heap.size x ad):=fun x b4=>qQ c g.key x (aR.o.below b4) (by have:=bA.1;omega);have c2:Hd (∀x,BB l x->CP 30 #[.slice e.a e.n e.cap] x fun L ad=>∃T:dj,L=.returned (.slice T.a T.n T.cap)/\rj ad x.heap.size T.val g.more/\Below x.heap.size x ad):=fun x b4=>qQ e g.more x (cd.o.below b4) (by have:=bA.2;omega);have bg:Hd (S.length<=1000000000):=by
        unfold Hd;rw[V.o.len];exact WM (dbj _ _) (WM (List.length_take_le' _ _) aO.o)
       have d1:l.drew.cell? ⟨wr.heap.size,0,none⟩=some (.slice c.a c.n c.cap):=b1;have d2:l.drew.cell? ⟨wr.heap.size,1,none⟩=some (.slice e.a e.n e.cap):=b2;clear b1 b2;cases bu:yv a b g with
       |false=>
        have aS:Hd ((h.take (d+1)).filter (yv a b)=(h.take d).filter (yv a b)):=by unfold Hd;rw[bk.o,bu];simp
        go_wp2_with fail;go_meet
        case rel=>exact⟨B,S,rfl,Y.o.trans (a7.o.mono a9.o),by unfold Hd;rw[aS.o];exact V.o.below a7.o⟩
       |true=>
        have aS:Hd ((h.take (d+1)).filter (yv a b)=(h.take d).filter (yv a b)++[g]):=by unfold Hd;rw[bk.o,bu];simp
        go_upto_region 11 with fail
        go_region_law (first
         |(refine lV (by rfl) 38 49 (by rfl) (.slice c.a c.n c.cap) (by rfl) ?_;refine(c1.o _ ((VM _ _).drew)).mono ?_;rintro L X ⟨i,rfl,au,b5⟩;have a3:Below l.heap.size l X:=((VM _ _).drew).trans b5;have cj:=(aj.below ai.o ai.o.lt a3).cell 1 (by simp);simp only[cN,gN]at cj;refine⟨_,rfl,?_⟩)
         |(revert b5;intro b5;refine lV (by rfl) 38 52 (by rfl) (.slice e.a e.n e.cap) (by rfl) ?_;refine(c2.o _ a3).mono ?_;rintro L O ⟨j,rfl,av,aa⟩;refine⟨_,rfl,?_⟩)
         |(revert aa;intro aa;have c0:Below l.heap.size l (O.alloc (.cells #[.slice i.a i.n i.cap,.slice j.a j.n j.cap] 164)):=((a3.trans (aa.mono a3.size)).alloc (WM a3.size aa.size) _);have af:Below wr.heap.size wr (O.alloc (.cells #[.slice i.a i.n i.cap,.slice j.a j.n j.cap] 164)):=a7.o.trans (c0.mono a7.o.size);refine cq (by rfl) (.tmp 47) (.tmp 55) 63 (by rfl) y.heap.size 164 _ 2 48 Tryz.underlying63 Tryz.infoEnt rfl (by decide) (.slice B.a B.n B.cap) S.length (xz S) (by rfl) (lj V.o.own af) ⟨O.heap.size,0,none⟩ 1 1 (xz [(i,j)]) (by rfl) rfl (jj.alloc_new O (xz [(i,j)]) _) (iZ _) (by have:=bg.o;unfold maxLen;omega) (by have:=bg.o;omega) (WM a9.o af.size) ?_;intro aT b7 b0 cT cr br d3))
        all_goals
         go_wp2_with fail;go_meet
         case rel=>
          have bn:Below O.heap.size O (O.alloc (.cells #[.slice i.a i.n i.cap,.slice j.a j.n j.cap] 164)):=tO;have d7:wr.heap.size<=l.heap.size:=a7.o.size;have d8:l.heap.size<=X.heap.size:=a3.size;have cm:rj (O.alloc (.cells #[.slice i.a i.n i.cap,.slice j.a j.n j.cap] 164)) y.heap.size i.val g.key:=Hj (lj (lj au aa) bn) (fun k w=>by have a2:=(au.lt k w).1;have ak:l.drew.heap.size=l.heap.size:=rfl;have:=a9.o;omega);have cn:rj (O.alloc (.cells #[.slice i.a i.n i.cap,.slice j.a j.n j.cap] 164)) y.heap.size j.val g.more:=Hj (lj av bn) (fun k w=>by have a2:=(av.lt k w).1;have:=a9.o;omega);have co:oz cT y.heap.size ⟨aT,b7,b0⟩ (S++[(i,j)]) ((h.take d).filter (yv a b)++[g]):=oz.push (N:=l.heap.size) (v:=B) (v':=⟨aT,b7,b0⟩) (V.o.below af) cm cn (fun cu a2 k w=>by have ak:=((V.o.ob cu a2 (by rw[Zx,<-V.o.len,<-zx];exact a2)).lt k w).2;omega) (fun k w=>(au.lt k w).1) (fun k w=>by have a2:=(av.lt k w).1;omega) (fun k w cs=>by have a2:=(au.lt k w).2;have ak:=(av.lt k cs).1;omega) cr br;have bo:Below y.heap.size y (O.alloc (.cells #[.slice i.a i.n i.cap,.slice j.a j.n j.cap] 164)):=Y.o.trans (af.mono a9.o);exact⟨⟨aT,b7,b0⟩,S++[(i,j)],rfl,bo.trans (br.below bo.size (fun k w=>(V.o.own.lt k w).1)),by unfold Hd;rw[aS.o];exact co⟩
     case rest=>
      obtain⟨a5,b8,rfl,bT,c9⟩:=hcut;go_wp2;exact⟨⟨d+1,a5,b8,ab,by go_num,rfl,bT,c9⟩,by simp[intOf];omega⟩
    .have bv:¬(d:Int)<U.n:=by rw[ah.o];omega
     obtain rfl:d=h.length:=by omega
     have cf:Hd (h.take h.length=h):=raj;go_wp2
     go_ret2
     rw[ca.o];refine⟨B,S,rfl,ae.o.trans (Y.o.mono ae.o.size),?_⟩;have:=V.o;rw[cf.o]at this;exact this.toBase ae.o.size
structure sX(w:World)(s:dj)(el:List (dj×dj))(l:List ej):Prop where
 sl:jj w s.a (xz el)
 n:s.n=el.length
 len:el.length=l.length
 bs:∀i (h1:i<el.length) (h2:i<l.length),BS w el[i].1 l[i].key/\BS w el[i].2 l[i].more
theorem Qq.toV{e:World}{f:Nat}{b:dj}{c:List (dj×dj)}{d:List ej}(a:Qq e f b c d):sX e b c d:=by
 obtain⟨g,h⟩:=jj.ofOwn (s:=b) a.own;exact⟨g,h,a.len,a.bs⟩
theorem wU{g:World}{h:Nat}{b:dj}{f:List UInt8}(d:rj g h b.val f):BS g b f:=by
 have l:=vj (a:=b.a) (n':=b.n) (cap:=b.cap) d;obtain⟨i,j,k⟩:=rj.sl (a:=b.a) (n:=b.n) (cap:=b.cap) d;refine⟨i,j,k,fun p e=>?_⟩;rcases l.2.2.2 with⟨c,_⟩|⟨o,c,_,m⟩
 .rw[e]at c;cases c
 .rw[e]at c;cases c;exact m
theorem iH(b:List ej):∀(a:Nat) (c:a<b.length),(Ez b)[a*2]? =some b[a].key/\(Ez b)[a*2+1]? =some b[a].more:=by
 induction b with
 |nil=>intro a c;simp at c
 |cons e b d=>
  intro a c;cases a with
  |zero=>simp[Ez]
  |succ a=>
   have:=d a (by simpa using c);simp only[Ez,JN]at this⊢;rw[show(a+1)*2=a*2+1+1 by omega,show a*2+1+1+1=(a*2+1)+1+1 by omega];simpa using this
theorem oz.toV{m:World}{n:Nat}{e:dj}{a:List (dj×dj)}{b:List ej}(c:oz m n e a b):sX m e a b:=by
 obtain⟨q,r⟩:=jj.ofOwn (s:=e) c.own;refine⟨q,r,c.len,fun d o p=>?_⟩;obtain⟨f,g⟩:=kY a d o;have t:(zq a).length=a.length*2:=zx a;have u:(Ez b).length=b.length*2:=Zx b;have h:=iH b d p;have k:=c.ob (d*2) (by omega) (by omega);have l:=c.ob (d*2+1) (by omega) (by omega);rw[UM (by omega)]at f g;have i:=h.2;have j:=h.1;rw[UM (by omega)]at i j;rw[lN f,lN j]at k;rw[lN g,lN i]at l;exact⟨wU k,wU l⟩
theorem EJ{c:World}{a:dj}{d:List UInt8}(b:BS c a d)(e:Nat):(convert 38 9 (.slice a.a a.n a.cap)).run Tryz.prog (c.drewN e)=.ok (.string ⟨d.toArray⟩) (c.drewN e):=
 wj (P:=Tryz.prog) _ 38 9 5 a.a a.n a.cap _ Tryz.underlying38 Tryz.underlying5 Tryz.underlying9 b.n b.sl b.nil
theorem IK(j k:dj)(c d:List (dj×dj))(b:List ej)(e:World)(h:sX e j c b)(i:sX e k d b)(Y:b.length<=1000000000):
  CP 70 #[j.val,k.val] e fun I K=>I=.returned (.bool true)/\∃g,K=e.drewN g:=by
 have A:j.n=b.length:=by rw[h.n,h.len]
 have B:k.n=b.length:=by rw[i.n,i.len]
 have m:Hd (sX e j c b):=h;have n:Hd (sX e k d b):=i;have o:Hd (c.length=b.length/\d.length=b.length):=⟨h.len,i.len⟩;have Z:(b.length:Int)<=1000000000:=by omega
 clear h i;obtain⟨L,N,M⟩:=j;obtain⟨O,Q,P⟩:=k;unfold dj.val;simp only at A B⊢;subst A B;go_enter Tryz.func70,Tryz.ntmps70;go_wp2_with fail
 go_loopw [5] (fun l wr=>∃a g:Nat,a<=b.length/\l=.int .i64 a/\wr=e.drewN g) (fun l _=>b.length - (intOf l).toNat)
 case atStart=>exact⟨0,0,by omega,rfl,rfl⟩
 case round=>
  obtain⟨a,g,X,rfl,rfl⟩:=hrel;by_cases z:a<b.length
  .have J:(a:Int)<b.length:=by omega
   have x:a<c.length:=by have:=o.o;omega
   have y:a<d.length:=by have:=o.o;omega
   obtain⟨p,C,v,V,r,t⟩:=Jw m.o.sl a x;obtain⟨q,D,w,W,s,u⟩:=Jw n.o.sl a y;obtain⟨E,F⟩:=m.o.bs a x z;obtain⟨G,H⟩:=n.o.bs a y z;have a0:=fun f=>EJ E f;have a1:=fun f=>EJ F f;have a2:=fun f=>EJ G f;have a3:=fun f=>EJ H f;simp only at v w;subst v w;have R:e.cell? ⟨p,C+a*2,none⟩=some (.slice c[a].1.a c[a].1.n c[a].1.cap):=r;have S:e.cell? ⟨p,C+a*2+1,none⟩=some (.slice c[a].2.a c[a].2.n c[a].2.cap):=t;have T:e.cell? ⟨q,D+a*2,none⟩=some (.slice d[a].1.a d[a].1.n d[a].1.cap):=s;have U:e.cell? ⟨q,D+a*2+1,none⟩=some (.slice d[a].2.a d[a].2.n d[a].2.cap):=u;clear r t s u E F G H;generalize c[a].1=a4 at*;generalize c[a].2=a5 at*;generalize d[a].1=a6 at*;generalize d[a].2=a7 at*;generalize b[a].key=a8 at*;generalize b[a].more=a9 at*;go_wp2_with fail;go_quiet (fail);go_wp2;refine⟨⟨a+1,g+nq,by omega,by go_num,rfl⟩,by simp[intOf];omega⟩
  .have J:¬(a:Int)<b.length:=by omega
   go_wp2;go_ret;exact⟨rfl,g,rfl⟩
theorem BF(c b d a:List UInt8):(Ey c b d a).2.length<=a.length/\∀e∈(Ey c b d a).2,e.key.length<=12/\e.more.length<=12:=by
 unfold Ey
 split
 .rw[rQ];cases g:Hy c b d a with
  |none=>simp
  |some f=>
   simp only[GN];refine⟨WM (dbj _ _) (PG c b d a f g),fun e h=>tK c b d a f g e (List.mem_filter.1 h).1⟩
 .simp
theorem GW(c:List ej)(e:∀b∈c,b.key.length<=12/\b.more.length<=12):∀d∈Ez c,d.length<=100000000000000:=fun d a=>by
 obtain⟨b,f,a⟩:=Eaj.1 a;have:=e b f;simp only[IN,jaj,or_false]at a;rcases a with rfl|rfl<;>omega
theorem IW{n g:World}{k i:Nat}{p q:dj}{t:List tj}{b:Ij}{l:List (dj×dj)}{f:List ej}(e:Dj n k p t b)(v:Below n.heap.size n g)(d:oz g i q l f)(M:n.heap.size<=i)(F:i<=g.heap.size)(H:f.length<=1000000000)(K:∀s∈f,s.key.length<=12/\s.more.length<=12)(I:b.rs.length+f.length*2<=1200000000000)(G:b.hs.length<=1200000000000):
  CP 71 #[.pointer (some ⟨k,1,none⟩),q.val] g fun u r=>u=.returned (.tuple #[])/\∃h:Ij,Dj r k p t h/\h.rs.length=b.rs.length+f.length*2/\h.gs=b.gs/\h.hs.length=b.hs.length+1/\bj (fun a=>a=k\/b.F a) n r:=by
 have o:=e.below v;have N:=aj.lt e.row;have w:∀j (m:j<(zq l).length),∀a,(zq l)[j].val.ownBlock=some a->i<=a/\a<g.heap.size:=fun j m a c=>(d.ob j m (by rw[Zx,<-d.len,<-zx];exact m)).lt a c;have J:uZ g k b.bs b.rs b.es b.hs (zq l) (Ez f) i:=by
  refine⟨by omega,F,fun a c=>?_,fun a c=>?_,w,d.pw,by rw[zx,Zx,d.len],GW f K⟩
  .have D:=e.bk.lt a c;have E:=(e.low a (SM c)).1;exact⟨by omega,by omega⟩
  .have D:=e.be.lt a c;have E:=(e.low a (RM (RM c))).1;exact⟨by omega,by omega,(e.ap2 a c).1⟩
 refine(mF k p b.bs b.dg b.es q b.rs b.hs l f i g o.row o.bk o.be d J (by rw[d.len];exact I) G (by rw[d.len];exact H)).mono ?_;intro u r x;obtain⟨h,y,z,A,B,C⟩:=e.moreE v (fun a c=>by have:=(d.own.lt a c).1;omega) (fun s L a c=>by
  obtain⟨j,m,rfl⟩:=PN L;have:=(w j m a c).1;omega) x
 exact⟨x.1,h,y,by rw[z,d.len],A,B,C⟩
theorem pZ(bc:List UInt8)(g h d:ByteArray)(G:Nat)(ap:dj)(ai:List tj)(l:Ij)(a:World)(b7:Dj a G ap ai l)(ca:bc.length=8)(cb:g.size<=140737488351232)(cc:h.size<=140737488351232)(bb:d.size<=1000000000)(c8:l.rs.length+d.size*2<=1200000000000)(c5:l.hs.length<=1200000000000):
  CP 37 #[.pointer (some ⟨G,0,none⟩),dV bc,.string g,.string h,.string d] a fun b S=>b=.returned (.bool true)/\∃B:Ij,Dj S G ap ai B/\B.rs.length<=l.rs.length+d.size*2/\B.gs=l.gs/\B.hs.length=l.hs.length+1/\bj (fun c=>c=G\/l.F c) a S:=by
 obtain⟨n,o,p,q,r,s,t,u,rfl⟩:=uj bc ca;have cd:d.size<=140737488351232:=by omega
 have V:Hd (∀(f:World) (y z k:dj),BS f y g.data.toList->BS f z h.data.toList->BS f k d.data.toList->k.n<=k.cap->CP 68 #[dV [n,o,p,q,r,s,t,u],y.val,z.val,k.val] f (LL f (Ey [n,o,p,q,r,s,t,u] g.data.toList h.data.toList d.data.toList))):=fun f y z k a2 C a3 a4=>mV y z k _ _ _ _ f rfl a2 C a3 a4 (by simp;unfold maxLen;omega) (by simp;unfold maxLen;omega) (by simpa using bb);have W:Hd (∀(f:World) (y z k:dj),BS f y g.data.toList->BS f z h.data.toList->BS f k d.data.toList->k.n<=k.cap->CP 69 #[dV [n,o,p,q,r,s,t,u],y.val,z.val,k.val] f (PV f (Ey [n,o,p,q,r,s,t,u] g.data.toList h.data.toList d.data.toList))):=fun f y z k a2 C a3 a4=>fV y z k _ _ _ _ f rfl a2 C a3 a4 (by simp;unfold maxLen;omega) (by simp;unfold maxLen;omega) (by simpa using bb);have X:Hd ((Ey [n,o,p,q,r,s,t,u] g.data.toList h.data.toList d.data.toList).2.length<=d.size/\∀ci∈(Ey [n,o,p,q,r,s,t,u] g.data.toList h.data.toList d.data.toList).2,ci.key.length<=12/\ci.more.length<=12):=by
  have:=BF [n,o,p,q,r,s,t,u] g.data.toList h.data.toList d.data.toList;exact⟨by simpa using this.1,this.2⟩
 generalize Ey [n,o,p,q,r,s,t,u] g.data.toList h.data.toList d.data.toList=E at*;have aD:Hd (aj (a.alloc (.cells #[.int .u8 n.toNat,.int .u8 o.toNat,.int .u8 p.toNat,.int .u8 q.toNat,.int .u8 r.toNat,.int .u8 s.toNat,.int .u8 t.toNat,.int .u8 u.toNat] 36)) a.heap.size 36 [.int .u8 n.toNat,.int .u8 o.toNat,.int .u8 p.toNat,.int .u8 q.toNat,.int .u8 r.toNat,.int .u8 s.toNat,.int .u8 t.toNat,.int .u8 u.toNat]):=aj.new a _ _;have bn:Hd (BB a (a.alloc (.cells #[.int .u8 n.toNat,.int .u8 o.toNat,.int .u8 p.toNat,.int .u8 q.toNat,.int .u8 r.toNat,.int .u8 s.toNat,.int .u8 t.toNat,.int .u8 u.toNat] 36))):=tO;have cn:Hd (Dj a G ap ai l):=b7;have ac:Hd (l.rs.length+d.size*2<=1200000000000/\l.hs.length<=1200000000000/\d.size<=1000000000):=⟨c8,c5,bb⟩;have d7:G<a.heap.size:=aj.lt b7.law.row;have d4:(g.size:Int)<=140737488351232:=by omega
 have d5:(h.size:Int)<=140737488351232:=by omega
 have d6:(d.size:Int)<=1000000000:=by omega
 clear b7 c8 ca c5;unfold dV at V W⊢;unfold fj at V W⊢;simp only[ZM,dN]at V W⊢;generalize (n.toNat:Int)=be at*;generalize (o.toNat:Int)=bf at*;generalize (p.toNat:Int)=bg at*;generalize (q.toNat:Int)=bh at*;generalize (r.toNat:Int)=bi at*;generalize (s.toNat:Int)=bk at*;generalize (t.toNat:Int)=bl at*;generalize (u.toNat:Int)=bm at*;go_enter Tryz.func37,Tryz.ntmps37;go_wp2_with fail;refine(Dx g _ _ cb).mono ?_;rintro b w ⟨I,a0,rfl,a8,a5,cg⟩;have aE:Hd (aj w a.heap.size 36 _):=aj.below aD.o (aj.lt aD.o) a5;simp only[YM]at a5 cg a8;have cj:=a5.size;simp only[YM]at cj;have bo:Hd (BB a w):=bn.o.trans (a5.mono (by omega));have bu:Hd (lq w (a.heap.size+1) g I a0):=a8;have Y:Hd (∀c,I=some ⟨c,0,none⟩->c=a.heap.size+1/\c<w.heap.size):=fun c j=>⟨(a8.lt j).1,by have:=a8.lt j;omega⟩;clear a5 a8 cg;go_wp2_with fail;refine(Dx h _ _ cc).mono ?_;rintro b m ⟨N,aa,rfl,am,a6,cE⟩;have d2:=a6.size;have bv:Hd (lq m (a.heap.size+1) g I a0):=bu.o.below a6 (TM _);have bA:Hd (lq m w.heap.size h N aa):=am;have aI:Hd (aj m a.heap.size 36 _):=aj.below aE.o (aj.lt aE.o) a6;have bp:Hd (BB a m):=bo.o.trans (a6.mono (by omega));have ab:Hd (∀c,N=some ⟨c,0,none⟩->c=w.heap.size/\c<m.heap.size):=fun c j=>⟨(am.lt j).1,by have:=am.lt j;omega⟩;clear am a6 cE bu aE aD bn;go_wp2_with fail;refine(Dx d _ _ cd).mono ?_;rintro b e ⟨O,Q,rfl,M,K,cI⟩;have d3:=K.size;have b9:=bv.o.below K (TM _);have ba:=bA.o.below K (TM _);have v:Hd (aj e a.heap.size 36 _):=aj.below aI.o (aj.lt aI.o) K;have br:Hd (BB a e):=bp.o.trans (K.mono (by omega));have aC:Hd (∀c,O=some ⟨c,0,none⟩->c=m.heap.size/\c<e.heap.size):=fun c j=>⟨(M.lt j).1,by have:=M.lt j;omega⟩;have c4:d.size<=Q:=by
  rcases M with⟨_,rfl,b⟩|⟨_,rfl,_⟩
  .rw[b];exact TM _
  .omega
 have U:=V.o e ⟨I,g.size,a0⟩ ⟨N,h.size,aa⟩ ⟨O,d.size,Q⟩ b9.bs ba.bs M.bs c4;unfold dj.val at U;have aT:e.cell? ⟨a.heap.size,0,none⟩=some (.int .u8 be):=aj.cell v.o 0 (by simp);have b0:e.cell? ⟨a.heap.size,1,none⟩=some (.int .u8 bf):=aj.cell v.o 1 (by simp);have b1:e.cell? ⟨a.heap.size,2,none⟩=some (.int .u8 bg):=aj.cell v.o 2 (by simp);have b2:e.cell? ⟨a.heap.size,3,none⟩=some (.int .u8 bh):=aj.cell v.o 3 (by simp);have b3:e.cell? ⟨a.heap.size,4,none⟩=some (.int .u8 bi):=aj.cell v.o 4 (by simp);have b4:e.cell? ⟨a.heap.size,5,none⟩=some (.int .u8 bk):=aj.cell v.o 5 (by simp);have b5:e.cell? ⟨a.heap.size,6,none⟩=some (.int .u8 bl):=aj.cell v.o 6 (by simp);have b6:e.cell? ⟨a.heap.size,7,none⟩=some (.int .u8 bm):=aj.cell v.o 7 (by simp);have U:Hd (Calls _ _ _ _ _):=U;have bw:Hd (lq e (a.heap.size+1) g I a0):=b9;have bB:Hd (lq e w.heap.size h N aa):=ba;have bS:Hd (lq e m.heap.size d O Q):=M;have co:Hd (a.heap.size+1<=w.heap.size/\w.heap.size<=m.heap.size/\m.heap.size<=e.heap.size):=⟨by omega,by omega,by omega⟩;clear b9 ba M K cI c4 cj d2 d3 V aI bv bA bo bp;go_wp2_with fail;refine U.o.mono ?_;rintro b T ⟨R,J,rfl,H,c9⟩;unfold dj.val;have c6:=bw.o.below H (TM _);have bC:Hd (lq T w.heap.size h N aa):=bB.o.below H (TM _);have bT:Hd (lq T m.heap.size d O Q):=bS.o.below H (TM _);have aO:Hd (aj T a.heap.size 36 _):=aj.below v.o (aj.lt v.o) H;have bD:Hd (oz T e.heap.size R J E.2):=c9;have au:Hd (BB a T):=br.o.trans (H.mono br.o.size);have cp:Hd (e.heap.size<=T.heap.size):=H.size;clear H c9 aT b0 b1 b2 b3 b4 b5 b6 bw bB bS U v;go_wp2_with fail;refine(Ex g I a0 (a.heap.size+1) _ cb c6).mono ?_;rintro b ar ⟨rfl,L,cP⟩;have cT:=co.o;have d0:=cp.o;have av:Hd (BB a ar):=au.o.trans (L.below au.o.size (fun c j=>by have:=Y.o c j;omega));have bE:Hd (oz ar e.heap.size R J E.2):=bD.o.frame L (fun c b=>by have C:=Y.o c b;omega);have c7:=bC.o.frame L (fun b=>by have:=Y.o _ b;omega);have c0:Hd (lq ar m.heap.size d O Q):=bT.o.frame L (fun b=>by have:=Y.o _ b;omega);have aP:Hd (aj ar a.heap.size 36 _):=aj.of_block aO.o (L.block _ (aj.lt aO.o) (fun b=>by have:=Y.o _ b;omega))
 clear L c6 bD aO bC bT au;go_wp2_with fail;refine(Ex h N aa w.heap.size _ cc c7).mono ?_;rintro b bd ⟨rfl,a7,cR⟩;have ax:Hd (BB a bd):=av.o.trans (a7.below av.o.size (fun c j=>by have:=ab.o c j;omega));have bI:Hd (oz bd e.heap.size R J E.2):=bE.o.frame a7 (fun c b=>by have C:=ab.o c b;omega);have ce:=c0.o.frame a7 (fun b=>by have:=ab.o _ b;omega);have aR:Hd (aj bd a.heap.size 36 _):=aj.of_block aP.o (a7.block _ (aj.lt aP.o) (fun b=>by have:=ab.o _ b;omega));clear a7 c7 bE aP c0 av;go_wp2_with fail;refine(Ex d O Q m.heap.size _ cd ce).mono ?_;rintro b i ⟨rfl,al,cS⟩;have aA:Hd (BB a i):=ax.o.trans (al.below ax.o.size (fun c j=>by have:=aC.o c j;omega));have bO:Hd (oz i e.heap.size R J E.2):=bI.o.frame al (fun c b=>by have C:=aC.o c b;omega);have x:Hd (aj i a.heap.size 36 _):=aj.of_block aR.o (al.block _ (aj.lt aR.o) (fun b=>by have:=aC.o _ b;omega));have c1:Hd (e.heap.size<=i.heap.size/\a.heap.size<=e.heap.size):=⟨by omega,by omega⟩;clear al ce bI aR ax cT d0 cP cR cS;have aT:i.cell? ⟨a.heap.size,0,none⟩=some (.int .u8 be):=aj.cell x.o 0 (by simp);have b0:i.cell? ⟨a.heap.size,1,none⟩=some (.int .u8 bf):=aj.cell x.o 1 (by simp);have b1:i.cell? ⟨a.heap.size,2,none⟩=some (.int .u8 bg):=aj.cell x.o 2 (by simp);have b2:i.cell? ⟨a.heap.size,3,none⟩=some (.int .u8 bh):=aj.cell x.o 3 (by simp);have b3:i.cell? ⟨a.heap.size,4,none⟩=some (.int .u8 bi):=aj.cell x.o 4 (by simp);have b4:i.cell? ⟨a.heap.size,5,none⟩=some (.int .u8 bk):=aj.cell x.o 5 (by simp);have b5:i.cell? ⟨a.heap.size,6,none⟩=some (.int .u8 bl):=aj.cell x.o 6 (by simp);have b6:i.cell? ⟨a.heap.size,7,none⟩=some (.int .u8 bm):=aj.cell x.o 7 (by simp);have cB:=fun a=>run_bytes_of_string (P:=Tryz.prog) a 9 38 5 g Tryz.underlying9 Tryz.underlying38 Tryz.underlying5;have cA:=fun a=>run_bytes_of_string (P:=Tryz.prog) a 9 38 5 h Tryz.underlying9 Tryz.underlying38 Tryz.underlying5;have cC:=fun a=>run_bytes_of_string (P:=Tryz.prog) a 9 38 5 d Tryz.underlying9 Tryz.underlying38 Tryz.underlying5;have d8:a.heap.size<i.heap.size:=aj.lt x.o
 have bR:Hd (∀(f:World) (ad:Option Addr) (an ag:Nat) (ae:Option Addr) (ao ah:Nat) (af:Option Addr) (a9 Z:Nat),BB i f->BS f ⟨ad,an,ag⟩ g.data.toList->BS f ⟨ae,ao,ah⟩ h.data.toList->BS f ⟨af,a9,Z⟩ d.data.toList->a9<=Z->CP 69 #[.agg #[.int .u8 be,.int .u8 bf,.int .u8 bg,.int .u8 bh,.int .u8 bi,.int .u8 bk,.int .u8 bl,.int .u8 bm],.slice ad an ag,.slice ae ao ah,.slice af a9 Z] f fun b S=>∃(F:dj) (a1:List (dj×dj)),b=.returned (.tuple #[.slice F.a F.n F.cap,.int .i64 (E.1:Int)])/\Below i.heap.size i S/\sX S F a1 E.2):=fun f ad an ag ae ao ah af a9 Z D a2 C a3 a4=>(W.o f ⟨ad,an,ag⟩ ⟨ae,ao,ah⟩ ⟨af,a9,Z⟩ a2 C a3 a4).mono (by
  rintro b S ⟨F,a1,rfl,cv,cD⟩;exact⟨F,a1,rfl,D.trans (cv.mono D.size),cD.toV⟩)
 go_wp2_with fail;refine(bR.o _ _ _ _ _ _ _ _ _ _ (by repeat' (first|(with_reducible exact VM _ _)|(with_reducible refine AN ?_)|(with_reducible refine faj ?_ ?_ _)|omega|(simp only[YM,daj];omega))) (by repeat' (first|(with_reducible refine Kv _ _ _ _ _ _ ?_;simp)|(with_reducible refine BS.drew ?_)|(with_reducible refine Px ?_ _))) (by repeat' (first|(with_reducible refine Kv _ _ _ _ _ _ ?_;simp)|(with_reducible refine BS.drew ?_)|(with_reducible refine Px ?_ _))) (by repeat' (first|(with_reducible refine Kv _ _ _ _ _ _ ?_;simp)|(with_reducible refine BS.drew ?_)|(with_reducible refine Px ?_ _))) (grownCap_ge _ _ _ _)).mono ?_;rintro b A ⟨F,a1,rfl,ak,cf⟩;have bP:Hd (oz A e.heap.size R J E.2):=bO.o.below ak;have bs:Hd (BB a A):=aA.o.trans (ak.mono aA.o.size);have cr:Hd (e.heap.size<=A.heap.size):=WM c1.o.1 ak.size;have aS:Hd (Calls _ _ _ _ _):=IK R F J a1 E.2 A bP.o.toV cf (by have:=X.o.1;have:=ac.o.2.2;omega);unfold dj.val at aS;clear ak cf bR cB cA cC W bO aA aT b0 b1 b2 b3 b4 b5 b6 x;go_wp2_with fail;refine aS.o.mono ?_;rintro b d9 ⟨rfl,d1,rfl⟩;have b8:Below A.heap.size A (A.drewN d1):=by
  have D:=VM A.heap.size A;exact⟨D.os,D.tape,D.output,D.size,D.block⟩
 have aB:Hd (Calls _ _ _ _ _):=IW cn.o (bs.o.trans (b8.mono bs.o.size)) (bP.o.below b8) c1.o.2 cr.o (by have:=X.o.1;have:=ac.o.2.2;omega) X.o.2 (by have:=X.o.1;have:=ac.o.1;omega) ac.o.2.1;unfold dj.val at aB;clear b8 aS;go_wp2_with fail;refine aB.o.mono ?_;rintro b ch ⟨rfl,B,c2,cs,ct,cu,c3⟩;have ck:Hd (Dj ch G ap ai B):=c2;have cl:Hd (B.rs.length<=l.rs.length+d.size*2):=by have:=X.o.1;unfold Hd;omega
 have cm:Hd (bj (fun c=>c=G\/l.F c) a ch):=c3;clear c2 cs c3 aB;go_wp2;go_ret;exact⟨rfl,B,ck.o,cl.o,ct,cu,cm.o⟩
end Go.Proofs.YtekegfbjbainhaaGreat
