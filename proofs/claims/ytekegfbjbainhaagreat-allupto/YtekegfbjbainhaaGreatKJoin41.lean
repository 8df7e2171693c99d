import Derived.Test.YtekegfbjbainhaaGreatKJoin40
import Derived.Deep.RegionHeld3
import Derived.Deep.RegionHeldLaw
import Derived.Deep.DeepCutAuto
set_option maxRecDepth 100000
set_option maxHeartbeats 4000000
set_option linter.unusedVariables false
set_option linter.unusedSimpArgs false
namespace Go.Proofs.YtekegfbjbainhaaGreat
open Go.RowKit
section
attribute [local go_sem↓] Go.wp_at_zero Go.wp_at_succ
theorem UW(u:List Value)(e bd:Int)(c:ByteArray)(x:Nat)(S:dj)(L:List tj)(m:Ij)(a:tj)(b:World)(M:Dj b x S L m)(b3:a∈L)(bw:u[0]? =some (.int .i64 6))(bb:u[2]? =some (.int .i64 e))(bA:u[3]? =some (.int .i64 bd))(bc:u[4]? =some (.string c))(ar:c.size<=140737488351232)(b5:m.rs.length<=1200000000000):
  CP 22 #[.pointer (some ⟨x,0,none⟩),.agg u.toArray,.pointer (some ⟨a.pb,0,none⟩)] b (kz 1 0 0 x S L m b):=by
 have a1:=M.law.ok a b3;have aI:Hd (BB b (b.alloc (.cells u.toArray 43))):=tO;have ax:c.data.toList.length<=maxLen:=by simp;unfold maxLen;omega
 have aa:Hd (c.data.toList.length<=maxLen):=ax;have br:a.pb<b.heap.size:=aj.lt a1.lay.row;have aA:x<b.heap.size:=aj.lt M.law.row;have y:Hd (Dj b x S L m):=M;have n:Hd (gz b a):=a1;clear ax M a1;go_enter Tryz.func22,Tryz.ntmps22;go_wp2_with fail;refine(Dx c _ _ ar).mono ?_;rintro j f ⟨t,J,rfl,N,w,Q⟩;simp only[YM]at w Q N;have V:Hd (BB b f):=aI.o.trans (w.mono (by omega));have bg:=w.size;simp only[YM]at bg;have a0:Below f.heap.size f f.drew:=⟨rfl,rfl,rfl,TM _,fun _ _=>rfl⟩;have F:=(n.o.lay.below V.o).below a0;have aC:f.cell? ⟨a.pb,0,none⟩=some (.pointer (some ⟨a.sb,0,none⟩)):=aj.cell F.row 0 (by simp);have ab:f.cell? ⟨b.heap.size,2,none⟩=some (.int .i64 e):=by
  rw[w.cell (p:=⟨b.heap.size,2,none⟩) (by show b.heap.size<_;omega)];simp[go_sem,bb]
 have ac:f.cell? ⟨b.heap.size,4,none⟩=some (.string c):=by
  rw[w.cell (p:=⟨b.heap.size,4,none⟩) (by show b.heap.size<_;omega)];simp[go_sem,bc]
 have a9:Hd (Calls _ _ _ _ _):=EG a.sb a.N a.en a.tr a.mp a.es a.xs a.its a.tds a.T a.pp e ⟨t,c.size,J⟩ c.data.toList f.drew F.sto F.tre n.o.t40 (N.bs.below a0) aa.o;have a6:Hd (lq f (b.heap.size+1) c t J):=N;have Y:Hd (b.heap.size+1<=f.heap.size/\f.heap.size<=b.heap.size+1+1):=⟨by omega,by omega⟩;have bs:a.pb<f.heap.size:=by omega
 have bp:a.pb≠b.heap.size:=by omega
 unfold dj.val at a9;clear F N w Q a0;go_wp2
 go_region_held3 (fun i=>i.cell? ⟨a.pb,0,none⟩=some (.pointer (some ⟨a.sb,0,none⟩))/\i.cell? ⟨b.heap.size,2,none⟩=some (.int .i64 e)) (go_keep)
  ((go_at_call 46;refine a9.o.mono ?_;rintro T r ⟨l,rfl,an,o⟩;have be:r.cell? ⟨a.pb,0,none⟩=some (.pointer (some ⟨a.sb,0,none⟩)):=(by rw[o.cell (p:=⟨a.pb,0,none⟩) (by show a.pb<f.heap.size;omega)];exact aC);have aB:r.cell? ⟨b.heap.size,2,none⟩=some (.int .i64 e):=(by rw[o.cell (p:=⟨b.heap.size,2,none⟩) (by show b.heap.size<f.heap.size;have:=Y.o;omega)];exact ab)))
 have z:Below f.heap.size f r:=⟨o.os,o.tape,o.output,o.size,o.block⟩;have a2:lq r (b.heap.size+1) c t J:=a6.o.below z (TM _);have a4:Hd (BB b r):=V.o.trans (z.mono V.o.size);have ad:r.cell? ⟨b.heap.size,4,none⟩=some (.string c):=by
  rw[z.cell (p:=⟨b.heap.size,4,none⟩) (by show b.heap.size<f.heap.size;have:=Y.o;omega)];exact ac
 have X:Hd (rj r f.heap.size l.val (jv a.pp e c.data.toList)):=an;have b9:=z.size;clear an o;go_wp2_with fail;refine(Ex c t J (b.heap.size+1) _ ar a2).mono ?_;rintro j h ⟨rfl,A,ba⟩;have ah:=fun d (g:t=some ⟨d,0,none⟩)=>a2.lt g;have B:∀d,t=some ⟨d,0,none⟩->d=b.heap.size+1/\b.heap.size+1<f.heap.size:=fun d g=>⟨(ah d g).1,(a6.o.lt g).2⟩;have W:Hd (BB b h):=a4.o.trans (A.below a4.o.size (fun d g=>by have:=B d g;omega));have a7:Hd (rj h f.heap.size l.val (jv a.pp e c.data.toList)):=ij X.o A (fun d g j=>by have ae:=(X.o.lt d g).1;have bm:=B d j;omega);have G:=n.o.lay.below W.o;have aP:h.cell? ⟨b.heap.size,2,none⟩=some (.int .i64 e):=by
  rw[<-aB];exact UN (A.block _ (by show b.heap.size<_;omega) (fun j=>by have:=B _ j;simp only at this;omega))
 have aR:h.cell? ⟨b.heap.size,4,none⟩=some (.string c):=by
  rw[<-ad];exact UN (A.block _ (by show b.heap.size<_;omega) (fun j=>by have:=B _ j;simp only at this;omega))
 have bf:h.cell? ⟨a.pb,1,none⟩=some (.pointer (some ⟨a.rb,0,none⟩)):=aj.cell G.row 1 (by simp);have b2:=fun b=>run_bytes_of_string (P:=Tryz.prog) b 9 38 5 c Tryz.underlying9 Tryz.underlying38 Tryz.underlying5;have a8:Hd (∀(i:World) (I:Option Addr) (R K:Nat),BB h i->BS i ⟨I,R,K⟩ c.data.toList->CP 47 #[.pointer (some ⟨a.rb,0,none⟩),.int .i64 e,.slice I R K] i fun T aD=>∃U:dj,T=.returned (.tuple #[.slice U.a U.n U.cap,.int .i64 (xx a.pp.length e c.data.toList:Int)])/\rj aD i.heap.size U.val (jv a.pp e c.data.toList)/\Below i.heap.size i aD):=fun i I R K b0 b1=>by
  have ap:=nY a.rb a.now a.past a.roots a.nl a.pastL a.rl e ⟨I,R,K⟩ c.data.toList i (G.below b0).ref (by rw[n.o.pl];exact n.o.t40) (fun bD b7=>G.pastR _ (by rw[<-n.o.pst];exact List.mem_map_of_mem b7)) b1 aa.o;rw[n.o.pst]at ap;exact ap
 have bv:b.heap.size<h.heap.size:=by omega
 have bu:a.pb<h.heap.size:=by omega
 have aO:Hd (f.heap.size<=h.heap.size):=by unfold Hd;omega
 clear G A ah B a2 z be aB ad ab ac aC b9 ba;go_wp2
 go_cut [11,12] (fun aS aT aE=>∃k:dj,aS=.slice k.a k.n k.cap/\aT=.int .i64 (xx a.pp.length e c.data.toList:Int)/\Hd (BB h aE)/\Hd (rj aE h.heap.size k.val (jv a.pp e c.data.toList)))
 case first=>
  go_region_held_law (fun i=>i.cell? ⟨a.pb,1,none⟩=some (.pointer (some ⟨a.rb,0,none⟩))/\i.cell? ⟨b.heap.size,2,none⟩=some (.int .i64 e)/\i.cell? ⟨b.heap.size,4,none⟩=some (.string c)) (go_keep)
   ((go_at_call 47;refine(a8.o _ _ _ _ (by repeat' (first|(with_reducible exact VM _ _)|(with_reducible refine AN ?_)|(with_reducible refine faj ?_ ?_ _)|omega|(simp only[YM,daj];omega))) (by repeat' (first|(with_reducible exact BS.ofString _ _ _ _ _)|(with_reducible refine BS.drew ?_)))).mono ?_;rintro T C ⟨k,rfl,a3,q⟩;have s:Hd (BB h C):=maj (by repeat' (first|(with_reducible exact VM _ _)|(with_reducible refine AN ?_)|(with_reducible refine faj ?_ ?_ _)|omega|(simp only[YM,daj];omega))) (Below.mono q (by simp));have E:Hd (rj C h.heap.size k.val (jv a.pp e c.data.toList)):=Hj a3 (fun d g=>(by have ae:=(a3.lt d g).1;simp at ae;omega));clear a3 q;have bi:C.cell? ⟨a.pb,1,none⟩=some (.pointer (some ⟨a.rb,0,none⟩)):=(by rw[s.o.cell (p:=⟨a.pb,1,none⟩) (by show a.pb<h.heap.size;omega)];exact bf);have bk:C.cell? ⟨b.heap.size,2,none⟩=some (.int .i64 e):=(by rw[s.o.cell (p:=⟨b.heap.size,2,none⟩) (by show b.heap.size<h.heap.size;omega)];exact aP);have bl:C.cell? ⟨b.heap.size,4,none⟩=some (.string c):=(by rw[s.o.cell (p:=⟨b.heap.size,4,none⟩) (by show b.heap.size<h.heap.size;omega)];exact aR)))
  all_goals
   go_wp2;go_meet;exact⟨k,rfl,rfl,s,E⟩
 case rest=>
  obtain⟨k,rfl,rfl,s,E⟩:=hcut;have q:=s.o;have O:rj wc f.heap.size (.slice l.a l.n l.cap) (jv a.pp e c.data.toList):=lj a7.o q;have ao:rj wc h.heap.size (.slice k.a k.n k.cap) (jv a.pp e c.data.toList):=E.o;obtain⟨au,ai,al⟩:=rj.sl O;obtain⟨av,ak,am⟩:=rj.sl ao;have bn:=wj (P:=Tryz.prog) wc 38 9 5 l.a l.n l.cap _ Tryz.underlying38 Tryz.underlying5 Tryz.underlying9 ai au al;have bo:=wj (P:=Tryz.prog) wc 38 9 5 k.a k.n k.cap _ Tryz.underlying38 Tryz.underlying5 Tryz.underlying9 ak av am;have D:Hd (BB b wc):=W.o.trans (q.mono W.o.size);have Z:=y.o.below D.o;have Q:=Y.o;have H:Hd (∀d,l.val.ownBlock=some d->b.heap.size<=d):=fun d g=>by have:=(O.lt d g).1;omega
  have ag:=xF (n.o.lay.pastR) e c.data.toList;have a5:Hd (Calls _ _ _ _ _):=Nw x S m.bs m.dg m.es l m.rs (jv a.pp e c.data.toList) f.heap.size wc Z.row Z.bk O ag b5 (WM aO.o q.size)
   (fun d g=>⟨by have:=H.o d g;omega,fun j=>by have:=H.o d g;have:=y.o.bk.lt d j;omega⟩) (fun d g=>by have:=(y.o.low d (SM g)).1;omega)
  generalize jv a.pp e c.data.toList=bC at*;generalize xx a.pp.length e c.data.toList=bB at*;clear au ai al av ak am O ao Z ag q a7 E X a8 b2 Q;unfold dj.val at a5;go_wp2_with (go_at_call 18;refine a5.o.mono ?_;rintro j bE ⟨rfl,bh,T,b8,b4,af,b6⟩);go_ret;refine⟨rfl,_,Dj.moreB (v:=l) y.o D.o H.o b8 b4 af b6,by simp[Ij.addB],by simp[Ij.addB],by simp[Ij.addB],?_⟩;exact(D.o.mono (EN aA)).trans (af.below (WM (EN aA) D.o.size) (fun d g=>by
   rcases g with j|j|j
   .omega
   .have:=H.o d j;omega
   .have:=(y.o.low d (SM (SM j))).1;omega))
theorem BY(o:List Value)(i bh:Int)(e d:ByteArray)(E:Nat)(a5:dj)(X:List tj)(s:Ij)(b:tj)(a:World)(Y:Dj a E a5 X s)(c0:b∈X)(cv:o[0]? =some (.int .i64 7))(bf:o[2]? =some (.int .i64 i))(cc:o[3]? =some (.int .i64 bh))(bg:o[4]? =some (.string e))(an:o[5]? =some (.string d))(b7:e.size<=140737488351232)(bb:d.size<=140737488351232)(c2:s.rs.length<=1200000000000):
  CP 22 #[.pointer (some ⟨E,0,none⟩),.agg o.toArray,.pointer (some ⟨b.pb,0,none⟩)] a (kz 1 0 0 E a5 X s a):=by
 have ai:=Y.law.ok b c0;have bn:Hd (BB a (a.alloc (.cells o.toArray 43))):=tO;have ba:e.data.toList.length<=maxLen:=by simp;unfold maxLen;omega
 have aC:Hd (e.data.toList.length<=maxLen):=ba;have bc:d.data.toList.length<=maxLen:=by simp;unfold maxLen;omega
 have aD:Hd (d.data.toList.length<=maxLen):=bc;have cs:b.pb<a.heap.size:=aj.lt ai.lay.row;have bd:E<a.heap.size:=aj.lt Y.law.row;have F:Hd (Dj a E a5 X s):=Y;have t:Hd (gz a b):=ai;clear ba bc Y ai;go_enter Tryz.func22,Tryz.ntmps22;go_wp2_with fail;refine(Dx e _ _ b7).mono ?_;rintro j r ⟨A,G,rfl,J,y,be⟩;simp only[YM]at y be J;have bm:=y.size;simp only[YM]at bm;have cf:r.cell? ⟨a.heap.size,3,none⟩=some (.int .i64 bh):=by
  rw[y.cell (p:=⟨a.heap.size,3,none⟩) (by show a.heap.size<_;omega)];simp[go_sem,cc]
 have cg:r.cell? ⟨a.heap.size,5,none⟩=some (.string d):=by
  rw[y.cell (p:=⟨a.heap.size,5,none⟩) (by show a.heap.size<_;omega)];simp[go_sem,an]
 go_wp2_with fail;refine(Dx d _ _ bb).mono ?_;rintro j f ⟨C,L,rfl,K,H,c7⟩;have ci:=H.size;have ak:lq f (a.heap.size+1) e A G:=J.below H (TM _);have a9:Hd (BB a f):=(bn.o.trans (y.mono (by omega))).trans (H.mono (by omega));have Z:Below f.heap.size f f.drew:=⟨rfl,rfl,rfl,TM _,fun _ _=>rfl⟩;have Q:=(t.o.lay.below a9.o).below Z;have bi:f.cell? ⟨b.pb,0,none⟩=some (.pointer (some ⟨b.sb,0,none⟩)):=aj.cell Q.row 0 (by simp);have am:∀h k,o[h]? =some k->f.cell? ⟨a.heap.size,h,none⟩=some k:=fun h k z=>by
  rw[H.cell (p:=⟨a.heap.size,h,none⟩) (by show a.heap.size<_;omega),y.cell (p:=⟨a.heap.size,h,none⟩) (by show a.heap.size<_;omega)];simp[go_sem,z]
 have br:Hd (∀h k,o[h]? =some k->f.cell? ⟨a.heap.size,h,none⟩=some k):=am;have aE:=am 2 _ bf;have aB:Hd (Calls _ _ _ _ _):=FG b.sb b.N b.en b.tr b.mp b.es b.xs b.its b.tds b.T b.pp i ⟨A,e.size,G⟩ ⟨C,d.size,L⟩ e.data.toList d.data.toList f.drew Q.sto Q.tre t.o.t40 (ak.bs.below Z) (K.bs.below Z) aC.o aD.o;have bo:Hd (lq f (a.heap.size+1) e A G):=ak;have bp:Hd (lq f r.heap.size d C L):=K;have af:Hd (a.heap.size+1<=r.heap.size/\r.heap.size<=f.heap.size):=⟨by omega,by omega⟩;have c4:b.pb<f.heap.size:=by omega
 have cr:b.pb≠a.heap.size:=by omega
 have N:Hd (∀c,A=some ⟨c,0,none⟩->c=a.heap.size+1/\c<r.heap.size):=fun c g=>⟨(J.lt g).1,by have:=J.lt g;omega⟩;have ab:Hd (∀c,C=some ⟨c,0,none⟩->c=r.heap.size/\c<f.heap.size):=fun c g=>⟨(K.lt g).1,by have:=K.lt g;omega⟩;unfold dj.val at aB;clear Q ak K J y be H c7 Z am cf cg bm ci;go_wp2
 go_region_held3 (fun l=>l.cell? ⟨b.pb,0,none⟩=some (.pointer (some ⟨b.sb,0,none⟩))/\l.cell? ⟨a.heap.size,2,none⟩=some (.int .i64 i)) (go_keep)
  ((go_at_call 48;refine aB.o.mono ?_;rintro a6 w ⟨q,rfl,b4,u⟩;have cd:w.cell? ⟨b.pb,0,none⟩=some (.pointer (some ⟨b.sb,0,none⟩)):=(by rw[u.cell (p:=⟨b.pb,0,none⟩) (by show b.pb<f.heap.size;omega)];exact bi);have ce:w.cell? ⟨a.heap.size,2,none⟩=some (.int .i64 i):=(by rw[u.cell (p:=⟨a.heap.size,2,none⟩) (by show a.heap.size<f.heap.size;have:=af.o;omega)];exact aE)))
 have B:Below f.heap.size f w:=⟨u.os,u.tape,u.output,u.size,u.block⟩;have aP:lq w (a.heap.size+1) e A G:=bo.o.below B (TM _);have aS:lq w r.heap.size d C L:=bp.o.below B (TM _);have ao:Hd (BB a w):=a9.o.trans (B.mono a9.o.size);have av:Hd (∀h k,o[h]? =some k->w.cell? ⟨a.heap.size,h,none⟩=some k):=fun h k z=>by
  rw[B.cell (p:=⟨a.heap.size,h,none⟩) (by show a.heap.size<f.heap.size;have:=af.o;omega)];exact br.o h k z
 have bw:=av.o 4 _ bg;have ac:Hd (rj w f.heap.size q.val (Xz b.pp i e.data.toList d.data.toList)):=b4;have c8:=B.size;clear b4 u;go_wp2_with fail;refine(Ex e A G (a.heap.size+1) _ b7 aP).mono ?_;rintro j a8 ⟨rfl,I,c9⟩;have cb:=af.o;have ap:Hd (BB a a8):=ao.o.trans (I.below ao.o.size (fun c g=>by have:=N.o c g;omega));have ad:Hd (rj a8 f.heap.size q.val (Xz b.pp i e.data.toList d.data.toList)):=ij ac.o I (fun c g j=>by have ag:=(ac.o.lt c g).1;have bI:=N.o c j;omega);have aT:lq a8 r.heap.size d C L:=aS.frame I (fun j=>by have:=N.o _ j;omega);have ax:Hd (∀h k,o[h]? =some k->a8.cell? ⟨a.heap.size,h,none⟩=some k):=fun h k z=>by
  rw[<-av.o h k z];exact UN (I.block _ (by show a.heap.size<_;omega) (fun j=>by have:=N.o _ j;simp only at this;omega))
 have bA:=ax.o 5 _ an;clear I bw;go_wp2_with fail;refine(Ex d C L r.heap.size _ bb aT).mono ?_;rintro j m ⟨rfl,a1,ca⟩;have aa:Hd (BB a m):=ap.o.trans (a1.below ap.o.size (fun c g=>by have:=ab.o c g;omega));have au:Hd (rj m f.heap.size q.val (Xz b.pp i e.data.toList d.data.toList)):=ij ad.o a1 (fun c g j=>by have ag:=(ad.o.lt c g).1;have bI:=ab.o c j;omega);have ae:Hd (∀h k,o[h]? =some k->m.cell? ⟨a.heap.size,h,none⟩=some k):=fun h k z=>by
  rw[<-ax.o h k z];exact UN (a1.block _ (by show a.heap.size<_;omega) (fun j=>by have:=ab.o _ j;simp only at this;omega))
 have R:=t.o.lay.below aa.o;have bB:=ae.o 2 _ bf;have bC:=ae.o 4 _ bg;have bD:=ae.o 5 _ an;have ch:m.cell? ⟨b.pb,1,none⟩=some (.pointer (some ⟨b.rb,0,none⟩)):=aj.cell R.row 1 (by simp);have bT:=fun a=>run_bytes_of_string (P:=Tryz.prog) a 9 38 5 e Tryz.underlying9 Tryz.underlying38 Tryz.underlying5;have bS:=fun a=>run_bytes_of_string (P:=Tryz.prog) a 9 38 5 d Tryz.underlying9 Tryz.underlying38 Tryz.underlying5;have aA:Hd (∀(l:World) (T:Option Addr) (a3 V:Nat) (U:Option Addr) (a4 W:Nat),BB m l->BS l ⟨T,a3,V⟩ e.data.toList->BS l ⟨U,a4,W⟩ d.data.toList->CP 49 #[.pointer (some ⟨b.rb,0,none⟩),.int .i64 i,.slice T a3 V,.slice U a4 W] l fun a6 bk=>∃a7:dj,a6=.returned (.tuple #[.slice a7.a a7.n a7.cap,.int .i64 (yx b.pp.length i e.data.toList d.data.toList:Int)])/\rj bk l.heap.size a7.val (Xz b.pp i e.data.toList d.data.toList)/\Below l.heap.size l bk):=fun l T a3 V U a4 W bO bP bR=>by
  have b6:=oY b.rb b.now b.past b.roots b.nl b.pastL b.rl i ⟨T,a3,V⟩ ⟨U,a4,W⟩ e.data.toList d.data.toList l (R.below bO).ref (by rw[t.o.pl];exact t.o.t40) (fun cC c5=>R.pastR _ (by rw[<-t.o.pst];exact List.mem_map_of_mem c5)) bP bR aC.o aD.o;rw[t.o.pst]at b6;exact b6
 have cu:a.heap.size<m.heap.size:=by omega
 have ct:b.pb<m.heap.size:=by omega
 have bs:Hd (f.heap.size<=m.heap.size):=by unfold Hd;omega
 have bu:Hd (a.heap.size<=f.heap.size):=by unfold Hd;omega
 clear R a1 aP aS aT B cd ce aE bi c8 c9 ca cb bA c4;go_wp2
 go_cut [20,21] (fun bv bE bl=>∃n:dj,bv=.slice n.a n.n n.cap/\bE=.int .i64 (yx b.pp.length i e.data.toList d.data.toList:Int)/\Hd (BB m bl)/\Hd (rj bl m.heap.size n.val (Xz b.pp i e.data.toList d.data.toList)))
 case first=>
  go_region_held_law (fun l=>l.cell? ⟨b.pb,1,none⟩=some (.pointer (some ⟨b.rb,0,none⟩))/\l.cell? ⟨a.heap.size,2,none⟩=some (.int .i64 i)/\l.cell? ⟨a.heap.size,4,none⟩=some (.string e)/\l.cell? ⟨a.heap.size,5,none⟩=some (.string d)) (go_keep)
   ((go_at_call 49;refine(aA.o _ _ _ _ _ _ _ (by repeat' (first|(with_reducible exact VM _ _)|(with_reducible refine AN ?_)|(with_reducible refine faj ?_ ?_ _)|omega|(simp only[YM,daj];omega))) (by repeat' (first|(with_reducible refine Kv _ _ _ _ _ _ ?_;simp)|(with_reducible refine BS.drew ?_)|(with_reducible refine Px ?_ _))) (by repeat' (first|(with_reducible refine Kv _ _ _ _ _ _ ?_;simp)|(with_reducible refine BS.drew ?_)|(with_reducible refine Px ?_ _)))).mono ?_;rintro a6 D ⟨n,rfl,al,aI⟩;have x:Hd (BB m D):=maj (by repeat' (first|(with_reducible exact VM _ _)|(with_reducible refine AN ?_)|(with_reducible refine faj ?_ ?_ _)|omega|(simp only[YM,daj];omega))) (Below.mono aI (by simp;omega));have O:Hd (rj D m.heap.size n.val (Xz b.pp i e.data.toList d.data.toList)):=Hj al (fun c g=>(by have ag:=(al.lt c g).1;simp at ag;omega));clear al aI;have ck:D.cell? ⟨b.pb,1,none⟩=some (.pointer (some ⟨b.rb,0,none⟩)):=(by rw[x.o.cell (p:=⟨b.pb,1,none⟩) (by show b.pb<m.heap.size;omega)];exact ch);have cl:D.cell? ⟨a.heap.size,2,none⟩=some (.int .i64 i):=(by rw[x.o.cell (p:=⟨a.heap.size,2,none⟩) (by show a.heap.size<m.heap.size;omega)];exact bB);have cm:D.cell? ⟨a.heap.size,4,none⟩=some (.string e):=(by rw[x.o.cell (p:=⟨a.heap.size,4,none⟩) (by show a.heap.size<m.heap.size;omega)];exact bC);have cn:D.cell? ⟨a.heap.size,5,none⟩=some (.string d):=(by rw[x.o.cell (p:=⟨a.heap.size,5,none⟩) (by show a.heap.size<m.heap.size;omega)];exact bD)))
  all_goals
   go_wp2;go_meet;exact⟨n,rfl,rfl,x,O⟩
 case rest=>
  obtain⟨n,rfl,rfl,x,O⟩:=hcut;have a0:=x.o;have a2:rj wc f.heap.size (.slice q.a q.n q.cap) (Xz b.pp i e.data.toList d.data.toList):=lj au.o a0;have b5:rj wc m.heap.size (.slice n.a n.n n.cap) (Xz b.pp i e.data.toList d.data.toList):=O.o;obtain⟨b8,b0,b2⟩:=rj.sl a2;obtain⟨b9,b1,b3⟩:=rj.sl b5;have co:=wj (P:=Tryz.prog) wc 38 9 5 q.a q.n q.cap _ Tryz.underlying38 Tryz.underlying5 Tryz.underlying9 b0 b8 b2;have cp:=wj (P:=Tryz.prog) wc 38 9 5 n.a n.n n.cap _ Tryz.underlying38 Tryz.underlying5 Tryz.underlying9 b1 b9 b3;have M:Hd (BB a wc):=aa.o.trans (a0.mono aa.o.size);have ah:=F.o.below M.o;have S:Hd (∀c,q.val.ownBlock=some c->a.heap.size<=c):=fun c g=>by have:=(a2.lt c g).1;have:=bu.o;omega
  have aR:=yF (t.o.lay.pastR) i e.data.toList d.data.toList;have ar:Hd (Calls _ _ _ _ _):=Nw E a5 s.bs s.dg s.es q s.rs (Xz b.pp i e.data.toList d.data.toList) f.heap.size wc ah.row ah.bk a2 aR c2 (WM bs.o a0.size)
   (fun c g=>⟨by have:=S.o c g;omega,fun j=>by have:=S.o c g;have:=F.o.bk.lt c j;omega⟩) (fun c g=>by have:=(F.o.low c (SM g)).1;omega)
  generalize Xz b.pp i e.data.toList d.data.toList=cB at*;generalize yx b.pp.length i e.data.toList d.data.toList=cA at*;clear b8 b0 b2 b9 b1 b3 a2 b5 ah aR a0 ad au ac O aA bT bS;unfold dj.val at ar;go_wp2_with (go_at_call 18;refine ar.o.mono ?_;rintro j cD ⟨rfl,cj,a6,c6,c1,aO,c3⟩);go_ret;refine⟨rfl,_,Dj.moreB (v:=q) F.o M.o S.o c6 c1 aO c3,by simp[Ij.addB],by simp[Ij.addB],by simp[Ij.addB],?_⟩;exact(M.o.mono (EN bd)).trans (aO.below (WM (EN bd) M.o.size) (fun c g=>by
   rcases g with j|j|j
   .omega
   .have:=S.o c j;omega
   .have:=(F.o.low c (SM (SM j))).1;omega))
end
section
theorem sV(c d e:Nat)(f wr:World)(b:Nat)(a:Fy)(C:Xq c d e f b wr)(u:TJ c d e b)(w:1<=c)(h:a.kind=6\/a.kind=7)(v:a.s.size<=140737488351232)(I:a.t.size<=140737488351232)(D: -9223372036854775808<=a.a)(E:a.a<=9223372036854775807):
  CP 12 #[.pointer (some ⟨f.heap.size,0,none⟩),.agg a.cells.toArray] wr fun k n=>k=.returned (.bool true)/\Xq c d e f (b+1) n:=by
 obtain⟨l,i,g,j,m,x,y,z,A,B⟩:=C;have J:(b+1)*c=b*c+c:=xN b c;have K:(b+1)*d=b*d+d:=xN b d;have L:(b+1)*e=b*e+e:=xN b e;obtain⟨N,O,P⟩:=id u;have t:a.kind=6\/a.kind=7\/a.kind=8\/a.kind=9:=by omega
 by_cases F:g.length=0
 .have G:g=[]:=ZN.1 F;subst G;refine(qV a.cells a.kind f.heap.size i wr m.law rfl t).mono ?_;rintro k n ⟨rfl,r⟩;exact⟨rfl,l.trans (r.mono l.size),i,[],j,m.below r,by omega,by omega,by omega,by omega,B⟩
 .refine(PK a.cells a.kind a.a 1 0 0 f.heap.size i g j wr m rfl rfl t rfl D E (by omega) (fun p o q s M=>?_)).mono ?_
  .rcases h with h|h
   .exact UW a.cells a.b a.c a.s f.heap.size i g j p o q s (by rw[<-h];rfl) rfl rfl rfl v (by omega)
   .exact BY a.cells a.b a.c a.s a.t f.heap.size i g j p o q s (by rw[<-h];rfl) rfl rfl rfl rfl v I (by omega)
  .intro k n H;exact Xq.next l x y z A H w (nN _) (nN _) u
def KM(b:World)(a:Fy):Prop:=(-9223372036854775808<=a.a/\a.a<=9223372036854775807)/\(-9223372036854775808<=a.b/\a.b<=9223372036854775807)/\(-9223372036854775808<=a.c/\a.c<=9223372036854775807)/\a.u.size<=1048576/\Qw b a.path
theorem EL{b a:Nat}(c:b<=a)(d:a<=524288):TJ 2100000 1 1 b:=⟨by omega,by omega,by omega⟩
theorem BM(E:rV)(u:Option Addr)(m C:Nat)(t:Nat->Fy)(i:World)(F:m<=524288)(H:lJ i u m t)(q:∀f,f<m->KM i (t f))
  (v:∀a:Fy,(a.kind=3\/a.kind=4\/a.kind=5)->a.s.size<=140737488351232->a.t.size<=140737488351232->qX a.cells):
  CP 8 #[.slice u m C] i fun D a0=>D=.returned (.bool true)/\Below i.heap.size i a0:=by
 have y:Hd (m<=524288):=F;have K:Hd rV:=E;clear F E;go_enter Tryz.func8,Tryz.ntmps8;go_wp2_with fail;obtain⟨c,p⟩:∃c,c=i.alloc (Obj.cells #[Value.int IntKind.i64 2,Value.int IntKind.i64 1,Value.int IntKind.i64 3,Value.int IntKind.i64 4,Value.int IntKind.i64 5,Value.int IntKind.i64 6,Value.int IntKind.i64 7,Value.int IntKind.i64 8,Value.int IntKind.i64 9,Value.int IntKind.i64 10,Value.int IntKind.i64 11,Value.int IntKind.i64 12,Value.int IntKind.i64 13,Value.int IntKind.i64 14,Value.int IntKind.i64 15,Value.int IntKind.i64 16] 3):=⟨_,rfl⟩;have I:lJ c u m t:=fun f o=>by
  obtain⟨L,a,N,O,U,g,l,M⟩:=H f o;rw[p];exact⟨L,a,N,by simp;omega,fun w Z W=>by rw[World.cell?_alloc_lt _ _ _ (by exact O)];exact U w Z W,g,l,M⟩
 have b:DV c i.heap.size [2,1,3,4,5,6,7,8,9,10,11,12,13,14,15,16]:=fun w P=>by
  rw[p];have Q:w<16:=by simpa using P
  match w,Q with
  |0,_=>simp[go_sem]
  |1,_=>simp[go_sem]
  |2,_=>simp[go_sem]
  |3,_=>simp[go_sem]
  |4,_=>simp[go_sem]
  |5,_=>simp[go_sem]
  |6,_=>simp[go_sem]
  |7,_=>simp[go_sem]
  |8,_=>simp[go_sem]
  |9,_=>simp[go_sem]
  |10,_=>simp[go_sem]
  |11,_=>simp[go_sem]
  |12,_=>simp[go_sem]
  |13,_=>simp[go_sem]
  |14,_=>simp[go_sem]
  |15,_=>simp[go_sem]
  |m+16,n=>exact absurd n (by omega)
 have X:i.heap.size<c.heap.size:=by rw[p];simp
 have x:Hd (BB i c):=by rw[p];exact tO
 have G:∀f,f<m->KM c (t f):=fun f o=>⟨(q f o).1,(q f o).2.1,(q f o).2.2.1,(q f o).2.2.2.1,(q f o).2.2.2.2.below x.o⟩;rw[<-p];clear p;refine(sM u m C i.heap.size 2 [1,3,4,5,6,7,8,9,10,11,12,13,14,15,16] t c (Xq 2100000 1 1 c) (KM c) (by have:=y.o;unfold maxLen;omega) I G X (by simp[maxLen]) b
  (IF 2100000 1 1 c) (fun e wr n=>n.1) (fun e wr Y n=>n.drew Y) (fun e wr n=>n.mono) ?_ ?_ ?_).mono ?_
 .intro wr d;exact KK 2100000 1 1 c wr 0 _ d rfl rfl (by omega)
 .intro e wr a T d S R g l _;have h:TJ 2100000 1 1 e:=EL T y.o;have b:a.kind=2\/a.kind=1\/a.kind=3\/a.kind=4\/a.kind=5\/a.kind=6\/a.kind=7\/a.kind=8\/a.kind=9\/a.kind=10\/a.kind=11\/a.kind=12\/a.kind=13\/a.kind=14\/a.kind=15\/a.kind=16:=by simpa using R
  obtain⟨⟨j,k⟩,⟨z,r⟩,⟨A,s⟩,V,B⟩:=S;rcases b with b|b|b|b|b|b|b|b|b|b|b|b|b|b|b|b
  .exact KK 2100000 1 1 c wr e a.cells d rfl (by rw[<-b];rfl) (by have:=y.o;omega)
  .exact LW 2100000 1 1 c wr e a.cells a.a a.s d rfl (by rw[<-b];rfl) rfl rfl g
  .exact tX 2100000 1 1 c wr e a.cells a.kind a.a d rfl rfl (SM b) rfl j k (v a (SM b) g l)
  .exact tX 2100000 1 1 c wr e a.cells a.kind a.a d rfl rfl (RM (SM b)) rfl j k (v a (RM (SM b)) g l)
  .exact tX 2100000 1 1 c wr e a.cells a.kind a.a d rfl rfl (RM (RM b)) rfl j k (v a (RM (RM b)) g l)
  .exact sV 2100000 1 1 c wr e a d h (by omega) (SM b) g l j k
  .exact sV 2100000 1 1 c wr e a d h (by omega) (RM b) g l j k
  .exact QK 2100000 1 1 c wr e a d h (by omega) (SM b) j k
  .exact QK 2100000 1 1 c wr e a d h (by omega) (RM b) j k
  .exact JF 2100000 1 1 c wr e a d h (by omega) b g (by omega)
  .exact MW 2100000 1 1 c wr e a d h (by omega) (by omega) b g l V
  .exact sY 2100000 1 1 c wr e a d h (SM b) r s B
  .exact sY 2100000 1 1 c wr e a d h (RM b) r s B
  .exact LK 2100000 1 1 c wr e a d h (by omega) (by omega) (SM b) g l j k z r A s
  .exact LK 2100000 1 1 c wr e a d h (by omega) (by omega) (RM b) g l j k z r A s
  .exact yH K.o 2100000 1 1 c wr e a d h b ⟨j,k⟩ ⟨z,r⟩ ⟨A,s⟩ B
 .intro e wr d;exact KF 2100000 1 1 c wr e d
 .rintro D a1 ⟨rfl,e,d⟩;have J:Hd (BB i a1):=x.o.trans (d.1.mono x.o.size);clear d I b H q v G;go_wp2;go_ret;exact⟨rfl,J.o⟩
end
end Go.Proofs.YtekegfbjbainhaaGreat
