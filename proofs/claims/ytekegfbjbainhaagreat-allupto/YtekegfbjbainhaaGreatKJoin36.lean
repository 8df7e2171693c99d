import Derived.Test.YtekegfbjbainhaaGreatKJoin35
import Derived.Laws.BitsAllLaws
import Derived.Deep.RegionHeld3
import Derived.Deep.RegionHeldLaw
import Derived.Deep.DeepCutAuto
set_option maxRecDepth 100000
set_option maxHeartbeats 4000000
set_option linter.unusedVariables false
set_option linter.unusedSimpArgs false
namespace Go.Proofs.YtekegfbjbainhaaGreat
open Go.RowKit
section
attribute [local go_sem↓] Go.wp_at_zero Go.wp_at_succ
theorem jH(b:dj)(c:List UInt8)(q:Int)(g:ByteArray)(m:Nat)(e:World)(k:rj e m b.val c)(s:c.length<=1000000000)(d:c.length=0\/g.toList.isEmpty=true):
  CP 56 #[b.val,.int .i64 q,.string g] e fun o r=>o=.returned (.string ⟨c.toArray⟩)/\r=e:=by
 obtain⟨l,f,j⟩:=rj.sl (a:=b.a) (n:=b.n) (cap:=b.cap) k;have i:=wj (P:=Tryz.prog) e 38 9 5 b.a b.n b.cap _ Tryz.underlying38 Tryz.underlying5 Tryz.underlying9 f l j;have p:(b.n:Int)<=1000000000:=by rw[f];omega
 unfold dj.val;rw[f]at i p⊢;clear k l j;by_cases h:c.length=0
 .rw[h]at i⊢;go_enter Tryz.func56,Tryz.ntmps56;go_wp2;go_ret;exact⟨rfl,rfl⟩
 .have t:g.toList.isEmpty=true:=by
   rcases d with d|d
   .exact absurd d h
   .exact d
  have u:(0:Int)<c.length:=by omega
  go_enter Tryz.func56,Tryz.ntmps56;go_wp2;go_ret;exact⟨rfl,rfl⟩
theorem CF(f:dj)(c:List UInt8)(h:Int)(d:ByteArray)(q:Nat)(g:World)(i:rj g q f.val c)(X:c.length<=1000000000)(W:0<c.length)(z:d.toList.isEmpty=false)(O: -9223372036854775808<=h)(Q:h<=9223372036854775807):
  CP 56 #[f.val,.int .i64 h,.string d] g fun o u=>∃l:List UInt8,l.length=c.length/\o=.returned (.string ⟨l.toArray⟩)/\bj (fun j=>f.val.ownBlock=some j) g u:=by
 obtain⟨R,t,N⟩:=rj.sl (a:=f.a) (n:=f.n) (cap:=f.cap) i;have M:(f.n:Int)<=1000000000:=by rw[t];omega
 have S:(0:Int)<f.n:=by omega
 have v:Hd (∀m,CP 20 #[.int .i64 h,.int .i64 (f.n:Int)] m fun o u=>o=.returned (.int .i64 (aq h f.n:Int))/\u=m):=fun m=>Uv h f.n m O Q (by omega) (by unfold maxLen;omega);have K:aq h f.n<c.length:=by have:=Yz h f.n (by omega);omega
 have L:(aq h f.n:Int)<f.n:=by omega
 generalize aq h f.n=b at*;obtain⟨E,V,k⟩:=f;have x:=vj (a:=E) (n':=V) (cap:=k) i;obtain⟨e,T,Z,a0⟩:∃e,E=some ⟨e,0,none⟩/\q<=e/\e<g.heap.size:=by
  rcases x.2.2.2 with⟨_,a3,_⟩|U
  .omega
  .exact U
 subst T;unfold dj.val at i⊢;simp only at i M S v L t⊢;subst t;have r:g.cell? ⟨e,b,none⟩=some (.int .u8 (c[b].toNat:Int)):=by
  have r:=BN i b (by omega);rw[zN,UM K]at r;exact r
 have Y:=CN i b;have a1:0<d.size:=by
  cases y:d.data.toList with
  |nil=>rw[Lib.toList_data,y]at z;cases z
  |cons a6 a4=>
   have:d.data.toList.length=d.size:=by rw[Raj];rfl
   rw[y,uN]at this;omega
 have a2:(0:Int)<d.size:=by omega
 have w:Value.int .u8 (bits BinOp.xor IntKind.u8 (c[b].toNat:Int) (d[0].toNat:Int))=fj (c[b]^^^d[0]):=by
  rw[u8_xor_nat _ _ (UInt8.toNat_lt _) (UInt8.toNat_lt _)];unfold fj;rw[UInt8.toNat_xor]
 have C:rj (g.setCell ⟨e,b,none⟩ (fj (c[b]^^^d[0]))) q (.slice (some ⟨e,0,none⟩) c.length k) (c.set b (c[b]^^^d[0])):=by
  have:=(QN i b (fj (c[b]^^^d[0]))).1;unfold rj;rw[List.map_set,List.length_set];exact this
 have s:bj (fun j=>(Value.slice (some ⟨e,0,none⟩) c.length k).ownBlock=some j) g (g.setCell ⟨e,b,none⟩ (fj (c[b]^^^d[0]))).drew:=by
  have H:bj (fun j=>(Value.slice (some ⟨e,0,none⟩) c.length k).ownBlock=some j) g (g.setCell ⟨e,b,none⟩ (fj (c[b]^^^d[0]))):=(bj.refl (fun j=>(Value.slice (some ⟨e,0,none⟩) c.length k).ownBlock=some j) g).setCell (p:=⟨e,b,none⟩) rfl _;have I:Below (g.setCell ⟨e,b,none⟩ (fj (c[b]^^^d[0]))).heap.size (g.setCell ⟨e,b,none⟩ (fj (c[b]^^^d[0]))) (g.setCell ⟨e,b,none⟩ (fj (c[b]^^^d[0]))).drew:=⟨rfl,rfl,rfl,TM _,fun _ _=>rfl⟩;exact H.trans (bj.of_below_all I)
 obtain⟨D,A,B⟩:=rj.sl C;have J:=wj (P:=Tryz.prog) (g.setCell ⟨e,b,none⟩ (fj (c[b]^^^d[0]))).drew 38 9 5 (some ⟨e,0,none⟩) c.length k (c.set b (c[b]^^^d[0])) Tryz.underlying38 Tryz.underlying5 Tryz.underlying9 A D B;rw[<-w]at J s;have F:Hd (bj _ g _):=s;have G:Hd ((c.set b (c[b]^^^d[0])).length=c.length):=List.length_set;generalize c.set b (c[b]^^^d[0])=l at*;clear C D A B s w i x R N;go_enter Tryz.func56,Tryz.ntmps56;go_wp2_with fail;refine(v.o _).mono ?_;rintro o a5 ⟨rfl,rfl⟩;go_wp2_with fail
 go_region
 go_wp2;go_ret;exact⟨l,G.o,rfl,F.o⟩
theorem nV(d:dj)(a:List UInt8)(c:Int)(b:ByteArray)(g:Nat)(e:World)(k:rj e g d.val a)(j:a.length<=1000000000)(o: -9223372036854775808<=c)(p:c<=9223372036854775807):
  CP 56 #[d.val,.int .i64 c,.string b] e fun f l=>∃i:List UInt8,i.length=a.length/\f=.returned (.string ⟨i.toArray⟩)/\bj (fun q=>d.val.ownBlock=some q) e l:=by
 by_cases h:a.length=0\/b.toList.isEmpty=true
 .refine(jH d a c b g e k j h).mono ?_;rintro f l ⟨rfl,rfl⟩;exact⟨a,rfl,rfl,bj.refl _ _⟩
 .have r:¬a.length=0:=fun f=>h (SM f);have m:b.toList.isEmpty=false:=by
   cases n:b.toList.isEmpty with
   |true=>exact absurd (RM n) h
   |false=>rfl
  exact CF d a c b g e k j (by omega) m o p
end
section
theorem TV(c f:Nat)(a b:List UInt8)(d:a.length=8)(e:b.length=8):(Fx c a f b).length=18:=by
 simp[Fx,d,e]
theorem sw:∀(a:Nat) (b:List (List UInt8)),a<=b.length->(∀e∈b,e.length=8)->(Fw a b).length=a*18
 |0,_,_,_=>rfl
 |a+1,b,f,c=>by
  unfold Fw;have d:(b.getD a []).length=8:=by
   rw[iaj,UM (by omega)];exact c _ (bN _)
  rw[XM,sw a b (by omega) c,TV _ _ _ _ d (Wj 41 _)];omega
theorem qZ:∀(b:Nat) (c:List (List UInt8)) (a d:Nat),b<=c.length->(∀j∈c,j.length=8)->a<b->d<18->(Fw b c)[a*18+d]? =(Fx a (c.getD a []) (a+1) (Uj 42 (c.take (a+1))))[d]?
 |0,_,_,_,_,_,e,_=>absurd e (wN _)
 |b+1,c,a,d,k,f,e,g=>by
  unfold Fw;have i:=sw b c (by omega) f;by_cases h:a<b
  .rw[DN (by omega)];exact qZ b c a d (by omega) f h g
  .obtain rfl:a=b:=by omega
   rw[MN (by omega),i,Nat.add_sub_cancel_left]
theorem kH(a:List (List UInt8))(e:∀g∈a,g.length=8)(b c:Nat)(d:b<a.length)(i:c<8):(iy a)[b*18+1+c]? =(a[b].map fj)[c]? :=by
 unfold iy;rw[paj,qZ a.length a b (1+c) (TM _) e d (by omega)];have f:a.getD b []=a[b]:=by rw[iaj,UM d];rfl
 have h:=e _ (bN d);rw[f];unfold Fx;rw[NN,NN,Nat.add_comm 1 c,List.singleton_append,zaj,DN (by simp;omega)]
theorem IQ(a:Nd):(sj a).length=8:=Lj _
theorem Rk{e:World}{c:tj}(i:gz e c)(d:Nat)(F:d<c.tds.length):c.done.n=c.tds.length/\∃(b f:Nat) (l m n o p q r t:UInt8),c.done.a=some ⟨b,f,none⟩/\b<e.heap.size/\c.done.val.ownBlock=some b/\
  e.cell? ⟨b,f+d*18+1,none⟩=some (fj l)/\e.cell? ⟨b,f+d*18+1+1,none⟩=some (fj m)/\e.cell? ⟨b,f+d*18+1+2,none⟩=some (fj n)/\e.cell? ⟨b,f+d*18+1+3,none⟩=some (fj o)/\e.cell? ⟨b,f+d*18+1+4,none⟩=some (fj p)/\e.cell? ⟨b,f+d*18+1+5,none⟩=some (fj q)/\e.cell? ⟨b,f+d*18+1+6,none⟩=some (fj r)/\e.cell? ⟨b,f+d*18+1+7,none⟩=some (fj t):=by
 obtain⟨x,G⟩:=jj.ofOwn (s:=c.done) i.lay.hdone;have A:=vj (a:=c.done.a) (n':=c.done.n) (cap:=c.done.cap) i.lay.hdone;have j:∀z∈c.tds.map sj,z.length=8:=fun z j=>by
  obtain⟨I,_,rfl⟩:=vN.1 j;exact IQ I
 have w:d<(c.tds.map sj).length:=by simpa using F
 obtain⟨l,m,n,o,p,q,r,t,H⟩:=uj (c.tds.map sj)[d] (j _ (bN w));rw[i.dc]at x;obtain⟨b,u,D⟩:∃b,c.done.a=some ⟨b,0,none⟩/\b<e.heap.size:=by
  rcases A.2.2.2 with⟨_,K,_⟩|⟨b,C,_,k⟩
  .have:=i.dl;omega
  .exact⟨b,C,k⟩
 have g:∀h,h<8->e.cell? ⟨b,0+d*18+1+h,none⟩=([l,m,n,o,p,q,r,t].map fj)[h]? :=fun h E=>by
  have y:=kH (c.tds.map sj) j d h w E;rw[H]at y;have k:d*18+1+h<(iy (c.tds.map sj)).length:=by
   unfold iy;rw[sw _ _ (TM _) j];omega
  obtain⟨J,f,v,_,B⟩:=x (d*18+1+h) k;rw[u]at v;cases v;rw[<-y,UM k,<-B]
  congr 2
  omega
 refine⟨by rw[G,i.dl],b,0,l,m,n,o,p,q,r,t,u,D,by unfold dj.val;rw[u];rfl,g 0 (by omega),g 1 (by omega),g 2 (by omega),g 3 (by omega),g 4 (by omega),g 5 (by omega),g 6 (by omega),g 7 (by omega)⟩
end
section
attribute [local go_sem↓] Go.wp_at_zero Go.wp_at_succ
theorem DF{b:List (List ej)}(c:∀e∈b,Qv e)(a:Int)(d:List UInt8):(jv b a d).length<=1000000:=by
 unfold jv
 split
 .exact rY (uQ c a) _ _
 .simp
theorem EF{b:List (List ej)}(d:∀e∈b,Qv e)(a:Int)(c f:List UInt8):(Xz b a c f).length<=1000000:=by
 unfold Xz
 split
 .exact rY (uQ d a) _ _
 .simp
def kz(i g h:Nat)(d:Nat)(j:dj)(e:List tj)(b:Ij)(k:World)(f:Ending)(c:World):Prop:=
 f=.returned (.bool true)/\∃a:Ij,Dj c d j e a/\a.rs.length<=b.rs.length+i/\a.gs.length<=b.gs.length+g/\a.hs.length<=b.hs.length+h/\Below d k c
theorem Dj.frameBelow{c f:World}{d:Nat}{j:dj}{h:List tj}{e:Ij}(g:Dj c d j h e)(i:bj (fun a=>a=d\/e.F a) c f):Below d c f:=
 i.below (EN (aj.lt g.law.row)) (fun a b=>by
  rcases b with rfl|b
  .exact TM _
  .exact EN (g.low a b).1)
theorem Dj.keepCell{g i:World}{l:Nat}{n:dj}{j:List tj}{h:Ij}{b:tj}(d:Dj g l n j h)(e:b∈j)(m:bj (fun a=>a=l\/h.F a) g i){a:Nat}(f:b.F a)(k:Nat):i.cell? ⟨a,k,none⟩=g.cell? ⟨a,k,none⟩:=
 UN (m.block a ((d.law.ok b e).lay.lt a f) (fun c=>by
  rcases c with c|c
  .have:=(d.law.low b e a f).1;omega
  .exact(d.low a c).2.2 b e f))
theorem Dj.keepOther{b e:World}{d:Nat}{m:dj}{g:List tj}{c:Ij}(n:Dj b d m g c)(k:bj (fun a=>a=d\/c.F a) b e){a:Nat}(l:a<b.heap.size)(i:a≠d)(j:¬c.F a)(f:Nat):e.cell? ⟨a,f,none⟩=b.cell? ⟨a,f,none⟩:=
 UN (k.block a l (fun h=>h.elim i j))
theorem oV(k:List Value)(f:Nat)(h:dj)(e:List tj)(d:Ij)(a:tj)(b:World)(g:Dj b f h e d)(n:a∈e)(m:a.tds.length=0):
  CP 23 #[.pointer (some ⟨f,0,none⟩),.agg k.toArray,.pointer (some ⟨a.pb,0,none⟩)] b (kz 0 0 0 f h e d b):=by
 have c:=g.law.ok a n;have i:Hd (BB b (b.alloc (.cells k.toArray 43))):=tO;have p:a.pb<b.heap.size:=aj.lt c.lay.row;have l:a.done.n=0:=by
  obtain⟨_,o⟩:=jj.ofOwn (s:=a.done) c.lay.hdone;rw[o,c.dl,m]
 have q:b.cell? ⟨a.pb,2,none⟩=some (.slice a.done.a 0 a.done.cap):=by
  have:b.cell? ⟨a.pb,2,none⟩=some (.slice a.done.a a.done.n a.done.cap):=aj.cell c.lay.row 2 (by simp);rw[l]at this;exact this
 have j:Hd (Dj b f h e d):=g;clear g c l;go_enter Tryz.func23,Tryz.ntmps23;go_wp2;go_ret;exact⟨rfl,d,j.o.below i.o,by omega,by omega,by omega,i.o.mono (EN (aj.lt j.o.law.row))⟩
theorem lH(k:List Value)(y N:Int)(i I aI:ByteArray)(u:Nat)(A:dj)(w:List tj)(v:Ij)(b:tj)(c:World)(a7:Dj c u A w v)(aB:b∈w)(bk:0<b.tds.length)(cv:k[0]? =some (.int .i64 14))(cA:k[2]? =some (.int .i64 y))(cB:k[3]? =some (.int .i64 N))(cC:k[4]? =some (.string i))(cD:k[5]? =some (.string I))(cE:k[6]? =some (.string aI))
  (cg: -9223372036854775808<=y)(ch:y<=9223372036854775807)(cj: -9223372036854775808<=N)(ck:N<=9223372036854775807)(cs:i.size<=140737488351232)(ct:I.size<=140737488351232)(br:v.rs.length<=1190000000000):
  CP 23 #[.pointer (some ⟨u,0,none⟩),.agg k.toArray,.pointer (some ⟨b.pb,0,none⟩)] c (kz 2 0 0 u A w v c):=by
 have x:=a7.law.ok b aB;have bv:i.data.toList.length<=maxLen:=by simp;unfold maxLen;omega
 have b3:Hd (i.data.toList.length<=maxLen):=bv;have cp:b.pb<c.heap.size:=aj.lt x.lay.row;have cu:u<c.heap.size:=aj.lt a7.law.row;have co:=Yz y b.tds.length bk;have b1:Hd (∀e,CP 20 #[.int .i64 y,.int .i64 (b.tds.length:Int)] e fun G ae=>G=.returned (.int .i64 (aq y b.tds.length:Int))/\ae=e):=fun e=>Uv y _ e cg ch bk (by have:=x.t40;unfold maxLen;omega);obtain⟨bm,f,d,ag,ah,ai,ak,al,am,an,ao,bo,cn,bp,O,Q,R,S,T,U,V,W⟩:=Rk x _ co;have H:c.cell? ⟨b.pb,2,none⟩=some (.slice (some ⟨f,d,none⟩) b.tds.length b.done.cap):=by
  have:c.cell? ⟨b.pb,2,none⟩=some (.slice b.done.a b.done.n b.done.cap):=aj.cell x.lay.row 2 (by simp);rw[bm,bo]at this;exact this
 have B:c.cell? ⟨b.pb,1,none⟩=some (.pointer (some ⟨b.rb,0,none⟩)):=aj.cell x.lay.row 1 (by simp);have d9:b.tds.length<=40:=x.t40;have aP:Hd (b.F b.pb):=SM (SM rfl);have n:Hd (b.F f):=SM (RM bp);have j:Hd (b∈w):=aB;have aR:Hd (Dj c u A w v):=a7;have F:Hd (gz c b):=x;have aT:Hd (v.rs.length<=1190000000000):=br;have bI:Hd (∀a:Nat,(jv b.pp a i.data.toList).length<=1000000):=fun a=>DF x.lay.pastR _ _;clear bv a7 x aB br bm bo bp;generalize aq y b.tds.length=a at*;unfold fj at O Q R S T U V W;have dd:(0:Int)<b.tds.length:=by omega
 have dc:(b.tds.length:Int)<=40:=by omega
 have da:(a:Int)<b.tds.length:=by omega
 have db:((b.tds.length:Int)==0)=false:=by rw[tN];simp only[ne_eq,beq_iff_eq];omega
 generalize b.tds.length=b5 at*;go_enter Tryz.func23,Tryz.ntmps23;go_wp2;go_quiet (first|(go_at_call 20;exact Calls.quiet_of_same (b1.o _)));have X:Hd (BB c ((c.alloc (.cells k.toArray 43)).drewN nq)):=by
  have s:=(VM c.heap.size c).alloc (TM _) (.cells k.toArray 43);exact⟨s.os,s.tape,s.output,s.size,s.block⟩
 have aA:c.heap.size<((c.alloc (.cells k.toArray 43)).drewN nq).heap.size:=by
  show c.heap.size<(c.alloc (.cells k.toArray 43)).heap.size;simp
 have c9:((c.alloc (.cells k.toArray 43)).drewN nq).cell? ⟨c.heap.size,0,none⟩=some (.int .i64 14):=by simp[go_sem,cv]
 have bh:((c.alloc (.cells k.toArray 43)).drewN nq).cell? ⟨c.heap.size,3,none⟩=some (.int .i64 N):=by simp[go_sem,cB]
 have a4:((c.alloc (.cells k.toArray 43)).drewN nq).cell? ⟨c.heap.size,4,none⟩=some (.string i):=by simp[go_sem,cC]
 have ax:((c.alloc (.cells k.toArray 43)).drewN nq).cell? ⟨c.heap.size,5,none⟩=some (.string I):=by simp[go_sem,cD]
 have bi:((c.alloc (.cells k.toArray 43)).drewN nq).cell? ⟨c.heap.size,6,none⟩=some (.string aI):=by simp[go_sem,cE]
 have ca:((c.alloc (.cells k.toArray 43)).drewN nq).cell? ⟨c.heap.size,2,none⟩=some (.int .i64 y):=by simp[go_sem,cA]
 generalize (c.alloc (.cells k.toArray 43)).drewN nq=m at*;have a9:∀(h l:Nat),h<c.heap.size->m.cell? ⟨h,l,none⟩=c.cell? ⟨h,l,none⟩:=fun h l s=>X.o.cell (p:=⟨h,l,none⟩) s;rw[<-a9 _ _ cp]at B H;rw[<-a9 _ _ cn]at O Q R S T U V W;have au:=F.o.lay.below X.o;have cl:=fun c=>run_bytes_of_string (P:=Tryz.prog) c 9 38 5 i Tryz.underlying9 Tryz.underlying38 Tryz.underlying5;have b2:Hd (∀(e:World) (a2:Option Addr) (ab a5:Nat),BB m e->BS e ⟨a2,ab,a5⟩ i.data.toList->CP 47 #[.pointer (some ⟨b.rb,0,none⟩),.int .i64 a,.slice a2 ab a5] e fun ac ae=>∃ad:dj,ac=.returned (.tuple #[.slice ad.a ad.n ad.cap,.int .i64 (xx b.pp.length a i.data.toList:Int)])/\rj ae e.heap.size ad.val (jv b.pp a i.data.toList)/\Below e.heap.size e ae):=fun e a2 ab a5 s ci=>by
  have bu:=nY b.rb b.now b.past b.roots b.nl b.pastL b.rl a ⟨a2,ab,a5⟩ i.data.toList e (au.below s).ref (by rw[F.o.pl];exact F.o.t40) (fun l C=>au.pastR _ (by rw[<-F.o.pst];exact List.mem_map_of_mem C)) ci b3.o;rw[F.o.pst]at bu;exact bu
 have cr:b.pb<m.heap.size:=by omega
 have cm:f<m.heap.size:=by omega
 have bC:Hd (∀(h l:Nat),h<c.heap.size->m.cell? ⟨h,l,none⟩=c.cell? ⟨h,l,none⟩):=a9;clear au a9;go_wp2
 go_cut [8,9] (fun c8 cd bw=>∃z:dj,c8=.slice z.a z.n z.cap/\cd=.int .i64 (xx b.pp.length a i.data.toList:Int)/\Hd (BB m bw)/\Hd (rj bw m.heap.size z.val (jv b.pp a i.data.toList)))
 case first=>
  go_region_held_law (fun e=>e.cell? ⟨b.pb,1,none⟩=some (.pointer (some ⟨b.rb,0,none⟩))/\e.cell? ⟨c.heap.size,4,none⟩=some (.string i)) (go_keep)
   ((go_at_call 47;refine(b2.o _ _ _ _ (by repeat' (first|(with_reducible exact VM _ _)|(with_reducible refine AN ?_)|(with_reducible refine faj ?_ ?_ _)|omega|(simp only[YM,daj];omega))) (by repeat' (first|(with_reducible exact BS.ofString _ _ _ _ _)|(with_reducible refine BS.drew ?_)))).mono ?_;rintro ac af ⟨z,rfl,aD,bl⟩;have E:Hd (BB m af):=maj (by repeat' (first|(with_reducible exact VM _ _)|(with_reducible refine AN ?_)|(with_reducible refine faj ?_ ?_ _)|omega|(simp only[YM,daj];omega))) (Below.mono bl (by simp));have K:Hd (rj af m.heap.size z.val (jv b.pp a i.data.toList)):=Hj aD (fun a aC=>(by have ce:=(aD.lt a aC).1;simp at ce;omega));clear aD bl;have d7:af.cell? ⟨b.pb,1,none⟩=some (.pointer (some ⟨b.rb,0,none⟩)):=(by rw[E.o.cell (p:=⟨b.pb,1,none⟩) (by show b.pb<m.heap.size;omega)];exact B);have d8:af.cell? ⟨c.heap.size,4,none⟩=some (.string i):=(by rw[E.o.cell (p:=⟨c.heap.size,4,none⟩) (by show c.heap.size<m.heap.size;omega)];exact a4)))
  all_goals
   go_wp2;go_meet;exact⟨z,rfl,rfl,E,K⟩
 case rest=>
  obtain⟨z,rfl,rfl,E,K⟩:=hcut;have a8:=E.o;have aS:Hd ((jv b.pp a i.data.toList).length<=1000000):=bI.o a;have aE:∀(h l:Nat),h<m.heap.size->wc.cell? ⟨h,l,none⟩=m.cell? ⟨h,l,none⟩:=fun h l s=>a8.cell (p:=⟨h,l,none⟩) s;have cb:=(aE _ 3 aA).trans bh;have cc:=(aE _ 6 aA).trans bi;have av:Hd (Calls _ _ _ _ _):=nV z (jv b.pp a i.data.toList) N aI m.heap.size wc K.o (by have:=aS.o;omega) cj ck;unfold dj.val at av;clear b2;go_wp2_with fail;refine av.o.mono ?_;rintro G D ⟨L,cf,rfl,bn⟩;have ap:Hd (BB m D):=a8.trans (bn.below a8.size (fun a aC=>(K.o.lt a aC).1));have aa:∀(h l:Nat),h<m.heap.size->D.cell? ⟨h,l,none⟩=m.cell? ⟨h,l,none⟩:=fun h l s=>ap.o.cell (p:=⟨h,l,none⟩) s;rw[<-aa _ _ cr]at H;rw[<-aa _ _ cm]at O Q R S T U V W;rw[<-aa _ _ aA]at a4 ax;have de:=ap.o.size;have J:Hd (BB c D):=X.o.trans (ap.o.mono X.o.size);have aO:Hd (BB c D.drew):=⟨J.o.os,J.o.tape,J.o.output,J.o.size,J.o.block⟩;have q:Hd (Dj D.drew u A w v):=aR.o.below aO.o;have bs:(ByteArray.mk L.toArray).size<=1000000:=by
   show L.toArray.size<=1000000;have:=aS.o;simp;omega
  have Y:Hd (Calls _ _ _ _ _):=SJ [ag,ah,ai,ak,al,am,an,ao] i ⟨L.toArray⟩ u A w v D.drew q.o rfl cs (by omega) (by have:=aT.o;omega);have bE:Hd ((ByteArray.mk L.toArray).size<=1000000):=bs;unfold dV fj at Y;simp only[ZM,dN]at Y;generalize ByteArray.mk L.toArray=cI at*;have a0:Hd (c.heap.size≠u):=by unfold Hd;omega
  have a1:Hd (c.heap.size<D.heap.size):=by unfold Hd;omega
  have ar:Hd (¬v.F c.heap.size):=fun G=>by have:=aR.o.lt _ G;omega
  have bg:=H;have b6:=O;have b7:=Q;have b8:=R;have b9:=S;have ba:=T;have bb:=U;have bc:=V;have bd:=W;have be:=a4;have bf:=ax;clear av cf bn cb cc aE aa a8 K E bs c9 ca bh bi cl B H O Q R S T U V W a4 ax bC b1 b3 F;go_wp2
  go_region_held3 (fun e=>e.cell? ⟨b.pb,2,none⟩=some (.slice (some ⟨f,d,none⟩) b5 b.done.cap)/\e.cell? ⟨f,d+a*18+1,none⟩=some (.int .u8 ag.toNat)/\e.cell? ⟨f,d+a*18+1+1,none⟩=some (.int .u8 ah.toNat)/\e.cell? ⟨f,d+a*18+1+2,none⟩=some (.int .u8 ai.toNat)/\e.cell? ⟨f,d+a*18+1+3,none⟩=some (.int .u8 ak.toNat)/\e.cell? ⟨f,d+a*18+1+4,none⟩=some (.int .u8 al.toNat)/\e.cell? ⟨f,d+a*18+1+5,none⟩=some (.int .u8 am.toNat)/\e.cell? ⟨f,d+a*18+1+6,none⟩=some (.int .u8 an.toNat)/\e.cell? ⟨f,d+a*18+1+7,none⟩=some (.int .u8 ao.toNat)/\e.cell? ⟨c.heap.size,4,none⟩=some (.string i)/\e.cell? ⟨c.heap.size,5,none⟩=some (.string I)) (go_keep)
   ((go_at_call 11;refine Y.o.mono ?_;rintro ac o ⟨rfl,a3,B,M,a6,g⟩;have c6:o.cell? ⟨b.pb,2,none⟩=_:=(q.o.keepCell j.o g aP.o 2).trans bg;have bP:o.cell? ⟨f,(d+a*18+1),none⟩=_:=(q.o.keepCell j.o g n.o (d+a*18+1)).trans b6;have bR:o.cell? ⟨f,(d+a*18+1+1),none⟩=_:=(q.o.keepCell j.o g n.o (d+a*18+1+1)).trans b7;have bS:o.cell? ⟨f,(d+a*18+1+2),none⟩=_:=(q.o.keepCell j.o g n.o (d+a*18+1+2)).trans b8;have bT:o.cell? ⟨f,(d+a*18+1+3),none⟩=_:=(q.o.keepCell j.o g n.o (d+a*18+1+3)).trans b9;have c0:o.cell? ⟨f,(d+a*18+1+4),none⟩=_:=(q.o.keepCell j.o g n.o (d+a*18+1+4)).trans ba;have c1:o.cell? ⟨f,(d+a*18+1+5),none⟩=_:=(q.o.keepCell j.o g n.o (d+a*18+1+5)).trans bb;have c2:o.cell? ⟨f,(d+a*18+1+6),none⟩=_:=(q.o.keepCell j.o g n.o (d+a*18+1+6)).trans bc;have c3:o.cell? ⟨f,(d+a*18+1+7),none⟩=_:=(q.o.keepCell j.o g n.o (d+a*18+1+7)).trans bd;have c4:o.cell? ⟨c.heap.size,4,none⟩=_:=(q.o.keepOther g (by exact a1.o) a0.o ar.o 4).trans be;have c5:o.cell? ⟨c.heap.size,5,none⟩=_:=(q.o.keepOther g (by exact a1.o) a0.o ar.o 5).trans bf))
  all_goals
   have r:Hd (Dj o.drew u A w (v.addB a3 B)):=M.below ⟨rfl,rfl,rfl,TM _,fun _ _=>rfl⟩;have bA:Hd (Below u c o):=(aO.o.mono (EN cu)).trans (q.o.frameBelow g);have bO:=g.size;have b4:Hd (c.heap.size<o.heap.size):=qN a1.o g.size;have b0:Hd (¬(v.addB a3 B).F c.heap.size):=fun G=>ar.o (a6 _ G a1.o);have Z:Hd (Calls _ _ _ _ _):=SJ [ag,ah,ai,ak,al,am,an,ao] I cI u A w (v.addB a3 B) o.drew r.o rfl ct (by have:=bE.o;omega) (by have:=aT.o;simp[Ij.addB];omega);unfold dV fj at Z;simp only[ZM,dN]at Z;clear Y M g a6 bg b6 b7 b8 b9 ba bb bc bd be bf bO;go_wp2
   go_region_held3 (fun e=>e.cell? ⟨b.pb,2,none⟩=some (.slice (some ⟨f,d,none⟩) b5 b.done.cap)/\e.cell? ⟨f,d+a*18+1,none⟩=some (.int .u8 ag.toNat)/\e.cell? ⟨f,d+a*18+1+1,none⟩=some (.int .u8 ah.toNat)/\e.cell? ⟨f,d+a*18+1+2,none⟩=some (.int .u8 ai.toNat)/\e.cell? ⟨f,d+a*18+1+3,none⟩=some (.int .u8 ak.toNat)/\e.cell? ⟨f,d+a*18+1+4,none⟩=some (.int .u8 al.toNat)/\e.cell? ⟨f,d+a*18+1+5,none⟩=some (.int .u8 am.toNat)/\e.cell? ⟨f,d+a*18+1+6,none⟩=some (.int .u8 an.toNat)/\e.cell? ⟨f,d+a*18+1+7,none⟩=some (.int .u8 ao.toNat)/\e.cell? ⟨c.heap.size,4,none⟩=some (.string i)/\e.cell? ⟨c.heap.size,5,none⟩=some (.string I)) (go_keep)
    ((go_at_call 11;refine Z.o.mono ?_;rintro ac t ⟨rfl,c7,H,M,a6,g⟩;have d6:t.cell? ⟨b.pb,2,none⟩=_:=(r.o.keepCell j.o g aP.o 2).trans c6;have cP:t.cell? ⟨f,(d+a*18+1),none⟩=_:=(r.o.keepCell j.o g n.o (d+a*18+1)).trans bP;have cR:t.cell? ⟨f,(d+a*18+1+1),none⟩=_:=(r.o.keepCell j.o g n.o (d+a*18+1+1)).trans bR;have cS:t.cell? ⟨f,(d+a*18+1+2),none⟩=_:=(r.o.keepCell j.o g n.o (d+a*18+1+2)).trans bS;have cT:t.cell? ⟨f,(d+a*18+1+3),none⟩=_:=(r.o.keepCell j.o g n.o (d+a*18+1+3)).trans bT;have d0:t.cell? ⟨f,(d+a*18+1+4),none⟩=_:=(r.o.keepCell j.o g n.o (d+a*18+1+4)).trans c0;have d1:t.cell? ⟨f,(d+a*18+1+5),none⟩=_:=(r.o.keepCell j.o g n.o (d+a*18+1+5)).trans c1;have d2:t.cell? ⟨f,(d+a*18+1+6),none⟩=_:=(r.o.keepCell j.o g n.o (d+a*18+1+6)).trans c2;have d3:t.cell? ⟨f,(d+a*18+1+7),none⟩=_:=(r.o.keepCell j.o g n.o (d+a*18+1+7)).trans c3;have d4:t.cell? ⟨c.heap.size,4,none⟩=_:=(r.o.keepOther g (by exact b4.o) a0.o b0.o 4).trans c4;have d5:t.cell? ⟨c.heap.size,5,none⟩=_:=(r.o.keepOther g (by exact b4.o) a0.o b0.o 5).trans c5))
   all_goals
    have bD:Hd (Dj t u A w ((v.addB a3 B).addB c7 H)):=M;have bB:Hd (Below u c t):=bA.o.trans (by
     have C:=r.o.frameBelow g;exact⟨C.os,C.tape,C.output,C.size,C.block⟩)
    clear M a6 g Z;go_wp2;go_ret;exact⟨rfl,_,bD.o,by simp[Ij.addB],by simp[Ij.addB],by simp[Ij.addB],bB.o⟩
theorem JW(l:List Value)(C L:Int)(h i a6:ByteArray)(s:Nat)(F:dj)(w:List tj)(k:Ij)(b:tj)(a:World)(X:Dj a s F w k)(ap:b∈w)(Y:0<b.tds.length)(cp:l[0]? =some (.int .i64 15))(cr:l[2]? =some (.int .i64 C))(cs:l[3]? =some (.int .i64 L))(ct:l[4]? =some (.string h))(cu:l[5]? =some (.string i))(cv:l[6]? =some (.string a6))
  (c9: -9223372036854775808<=C)(ca:C<=9223372036854775807)(cd: -9223372036854775808<=L)(ce:L<=9223372036854775807)(cm:h.size<=140737488351232)(cn:i.size<=140737488351232)(bh:k.rs.length<=1190000000000)(bg:k.hs.length<=1200000000000):
  CP 23 #[.pointer (some ⟨s,0,none⟩),.agg l.toArray,.pointer (some ⟨b.pb,0,none⟩)] a (kz 2000000 0 1 s F w k a):=by
 have z:=X.law.ok b ap;have bl:h.data.toList.length<=maxLen:=by simp;unfold maxLen;omega
 have b4:Hd (h.data.toList.length<=maxLen):=bl;have b6:Hd (i.data.toList.length<=maxLen):=by unfold Hd;simp;unfold maxLen;omega
 have cl:b.pb<a.heap.size:=aj.lt z.lay.row;have co:s<a.heap.size:=aj.lt X.law.row;have ck:=Yz C b.tds.length Y;have b2:Hd (∀d,CP 20 #[.int .i64 C,.int .i64 (b.tds.length:Int)] d fun J G=>J=.returned (.int .i64 (aq C b.tds.length:Int))/\G=d):=fun d=>Uv C _ d c9 ca Y (by have:=z.t40;unfold maxLen;omega);obtain⟨bd,f,e,aA,aB,aC,aD,aE,aI,aO,aP,be,ci,bf,a8,a9,aa,ab,ac,ad,ae,af⟩:=Rk z _ ck;have ax:a.cell? ⟨b.pb,2,none⟩=some (.slice (some ⟨f,e,none⟩) b.tds.length b.done.cap):=by
  have:a.cell? ⟨b.pb,2,none⟩=some (.slice b.done.a b.done.n b.done.cap):=aj.cell z.lay.row 2 (by simp);rw[bd,be]at this;exact this
 have av:a.cell? ⟨b.pb,1,none⟩=some (.pointer (some ⟨b.rb,0,none⟩)):=aj.cell z.lay.row 1 (by simp);have d7:b.tds.length<=40:=z.t40;have bo:Hd (b.F b.pb):=SM (SM rfl);have E:Hd (b.F f):=SM (RM bf);have y:Hd (b∈w):=ap;have aS:Hd (Dj a s F w k):=X;have I:Hd (gz a b):=z;have b0:Hd (k.rs.length<=1190000000000/\k.hs.length<=1200000000000):=⟨bh,bg⟩;have bs:Hd (∀c:Nat,(Xz b.pp c h.data.toList i.data.toList).length<=1000000):=fun c=>EF z.lay.pastR _ _ _;clear bl X z ap bh bg bd be bf;generalize aq C b.tds.length=c at*;unfold fj at a8 a9 aa ab ac ad ae af;have dc:(0:Int)<b.tds.length:=by omega
 have db:(b.tds.length:Int)<=40:=by omega
 have d9:(c:Int)<b.tds.length:=by omega
 have da:((b.tds.length:Int)==0)=false:=by rw[tN];simp only[ne_eq,beq_iff_eq];omega
 generalize b.tds.length=bw at*;go_enter Tryz.func23,Tryz.ntmps23;go_wp2;go_quiet (first|(go_at_call 20;exact Calls.quiet_of_same (b2.o _)));have O:Hd (BB a ((a.alloc (.cells l.toArray 43)).drewN nq)):=by
  have u:=(VM a.heap.size a).alloc (TM _) (.cells l.toArray 43);exact⟨u.os,u.tape,u.output,u.size,u.block⟩
 have K:a.heap.size<((a.alloc (.cells l.toArray 43)).drewN nq).heap.size:=by
  show a.heap.size<(a.alloc (.cells l.toArray 43)).heap.size;simp
 have c3:((a.alloc (.cells l.toArray 43)).drewN nq).cell? ⟨a.heap.size,0,none⟩=some (.int .i64 15):=by simp[go_sem,cp]
 have b7:((a.alloc (.cells l.toArray 43)).drewN nq).cell? ⟨a.heap.size,3,none⟩=some (.int .i64 L):=by simp[go_sem,cs]
 have al:((a.alloc (.cells l.toArray 43)).drewN nq).cell? ⟨a.heap.size,4,none⟩=some (.string h):=by simp[go_sem,ct]
 have am:((a.alloc (.cells l.toArray 43)).drewN nq).cell? ⟨a.heap.size,5,none⟩=some (.string i):=by simp[go_sem,cu]
 have b8:((a.alloc (.cells l.toArray 43)).drewN nq).cell? ⟨a.heap.size,6,none⟩=some (.string a6):=by simp[go_sem,cv]
 have c4:((a.alloc (.cells l.toArray 43)).drewN nq).cell? ⟨a.heap.size,2,none⟩=some (.int .i64 C):=by simp[go_sem,cr]
 generalize (a.alloc (.cells l.toArray 43)).drewN nq=j at*;have Z:∀(g m:Nat),g<a.heap.size->j.cell? ⟨g,m,none⟩=a.cell? ⟨g,m,none⟩:=fun g m u=>O.o.cell (p:=⟨g,m,none⟩) u;rw[<-Z _ _ cl]at av ax;rw[<-Z _ _ ci]at a8 a9 aa ab ac ad ae af;have ak:=I.o.lay.below O.o;have cg:=fun a=>run_bytes_of_string (P:=Tryz.prog) a 9 38 5 h Tryz.underlying9 Tryz.underlying38 Tryz.underlying5;have cf:=fun a=>run_bytes_of_string (P:=Tryz.prog) a 9 38 5 i Tryz.underlying9 Tryz.underlying38 Tryz.underlying5;have b3:Hd (∀(d:World) (T:Option Addr) (a2 V:Nat) (U:Option Addr) (a3 W:Nat),BB j d->BS d ⟨T,a2,V⟩ h.data.toList->BS d ⟨U,a3,W⟩ i.data.toList->CP 49 #[.pointer (some ⟨b.rb,0,none⟩),.int .i64 c,.slice T a2 V,.slice U a3 W] d fun a5 G=>∃a7:dj,a5=.returned (.tuple #[.slice a7.a a7.n a7.cap,.int .i64 (yx b.pp.length c h.data.toList i.data.toList:Int)])/\rj G d.heap.size a7.val (Xz b.pp c h.data.toList i.data.toList)/\Below d.heap.size d G):=fun d T a2 V U a3 W u cb cc=>by
  have bk:=oY b.rb b.now b.past b.roots b.nl b.pastL b.rl c ⟨T,a2,V⟩ ⟨U,a3,W⟩ h.data.toList i.data.toList d (ak.below u).ref (by rw[I.o.pl];exact I.o.t40) (fun m H=>ak.pastR _ (by rw[<-I.o.pst];exact List.mem_map_of_mem H)) cb cc b4.o b6.o;rw[I.o.pst]at bk;exact bk
 have bi:b.pb<j.heap.size:=by omega
 have A:f<j.heap.size:=by omega
 have bp:Hd (∀(g m:Nat),g<a.heap.size->j.cell? ⟨g,m,none⟩=a.cell? ⟨g,m,none⟩):=Z;clear ak Z;go_wp2
 go_cut [13,14] (fun c2 c5 bm=>∃x:dj,c2=.slice x.a x.n x.cap/\c5=.int .i64 (yx b.pp.length c h.data.toList i.data.toList:Int)/\Hd (BB j bm)/\Hd (rj bm j.heap.size x.val (Xz b.pp c h.data.toList i.data.toList)))
 case first=>
  go_region_held_law (fun d=>d.cell? ⟨b.pb,1,none⟩=some (.pointer (some ⟨b.rb,0,none⟩))/\d.cell? ⟨a.heap.size,4,none⟩=some (.string h)/\d.cell? ⟨a.heap.size,5,none⟩=some (.string i)) (go_keep)
   ((go_at_call 49;refine(b3.o _ _ _ _ _ _ _ (by repeat' (first|(with_reducible exact VM _ _)|(with_reducible refine AN ?_)|(with_reducible refine faj ?_ ?_ _)|omega|(simp only[YM,daj];omega))) (by repeat' (first|(with_reducible refine Kv _ _ _ _ _ _ ?_;simp)|(with_reducible refine BS.drew ?_)|(with_reducible refine Px ?_ _))) (by repeat' (first|(with_reducible refine Kv _ _ _ _ _ _ ?_;simp)|(with_reducible refine BS.drew ?_)|(with_reducible refine Px ?_ _)))).mono ?_;rintro a5 N ⟨x,rfl,au,bc⟩;have D:Hd (BB j N):=maj (by repeat' (first|(with_reducible exact VM _ _)|(with_reducible refine AN ?_)|(with_reducible refine faj ?_ ?_ _)|omega|(simp only[YM,daj];omega))) (Below.mono bc (by simp;omega));have M:Hd (rj N j.heap.size x.val (Xz b.pp c h.data.toList i.data.toList)):=Hj au (fun c ar=>(by have an:=(au.lt c ar).1;simp at an;omega));clear au bc;have d3:N.cell? ⟨b.pb,1,none⟩=some (.pointer (some ⟨b.rb,0,none⟩)):=(by rw[D.o.cell (p:=⟨b.pb,1,none⟩) (by show b.pb<j.heap.size;omega)];exact av);have d4:N.cell? ⟨a.heap.size,4,none⟩=some (.string h):=(by rw[D.o.cell (p:=⟨a.heap.size,4,none⟩) (by show a.heap.size<j.heap.size;omega)];exact al);have d5:N.cell? ⟨a.heap.size,5,none⟩=some (.string i):=(by rw[D.o.cell (p:=⟨a.heap.size,5,none⟩) (by show a.heap.size<j.heap.size;omega)];exact am)))
  all_goals
   go_wp2;go_meet;exact⟨x,rfl,rfl,D,M⟩
 case rest=>
  obtain⟨x,rfl,rfl,D,M⟩:=hcut;have ao:=D.o;have aT:Hd ((Xz b.pp c h.data.toList i.data.toList).length<=1000000):=bs.o c;have a1:∀(g m:Nat),g<j.heap.size->wc.cell? ⟨g,m,none⟩=j.cell? ⟨g,m,none⟩:=fun g m u=>ao.cell (p:=⟨g,m,none⟩) u;have b5:Hd (Calls _ _ _ _ _):=nV x (Xz b.pp c h.data.toList i.data.toList) L a6 j.heap.size wc.drew (lj M.o ⟨rfl,rfl,rfl,TM _,fun _ _=>rfl⟩) (by have:=aT.o;omega) cd ce;have b1:Hd (∀a0,x.val.ownBlock=some a0->j.heap.size<=a0):=fun a0 cj=>(M.o.lt a0 cj).1;unfold dj.val at b5 b1;rw[<-a1 _ _ bi]at ax;rw[<-a1 _ _ A]at a8 a9 aa ab ac ad ae af;rw[<-a1 _ _ K]at b7 al am b8;have R:Hd (a.heap.size≠s):=by unfold Hd;omega
  have Q:Hd (¬k.F a.heap.size):=fun J=>by have:=aS.o.lt _ J;omega
  have bu:Hd (j.heap.size<=wc.heap.size):=ao.size;have ah:Hd (∀(d:World) (a4:ByteArray),Dj d s F w k->a4.size<=1000000->CP 37 #[.pointer (some ⟨s,0,none⟩),dV [aA,aB,aC,aD,aE,aI,aO,aP],.string h,.string i,.string a4] d fun J G=>J=.returned (.bool true)/\∃v:Ij,Dj G s F w v/\v.rs.length<=k.rs.length+2000000/\v.gs=k.gs/\v.hs.length=k.hs.length+1/\bj (fun c=>c=s\/k.F c) d G):=fun d a4 c8 dd=>by
   refine(pZ [aA,aB,aC,aD,aE,aI,aO,aP] h i a4 s F w k d c8 rfl cm cn (by omega) (by have:=b0.o.1;omega) b0.o.2).mono ?_;rintro J G ⟨Y,v,an,d6,c7⟩;exact⟨Y,v,an,by omega,c7⟩
  unfold dV fj at ah;simp only[ZM,dN]at ah;clear b3 ao a1 M c3 c4 cg cf av bp b2 b4 b6 I;go_wp2
  go_region_held3 (fun d=>d.cell? ⟨b.pb,2,none⟩=some (.slice (some ⟨f,e,none⟩) bw b.done.cap)/\d.cell? ⟨f,e+c*18+1,none⟩=some (.int .u8 aA.toNat)/\d.cell? ⟨f,e+c*18+1+1,none⟩=some (.int .u8 aB.toNat)/\d.cell? ⟨f,e+c*18+1+2,none⟩=some (.int .u8 aC.toNat)/\d.cell? ⟨f,e+c*18+1+3,none⟩=some (.int .u8 aD.toNat)/\d.cell? ⟨f,e+c*18+1+4,none⟩=some (.int .u8 aE.toNat)/\d.cell? ⟨f,e+c*18+1+5,none⟩=some (.int .u8 aI.toNat)/\d.cell? ⟨f,e+c*18+1+6,none⟩=some (.int .u8 aO.toNat)/\d.cell? ⟨f,e+c*18+1+7,none⟩=some (.int .u8 aP.toNat)/\d.cell? ⟨a.heap.size,3,none⟩=some (.int .i64 L)/\d.cell? ⟨a.heap.size,4,none⟩=some (.string h)/\d.cell? ⟨a.heap.size,5,none⟩=some (.string i)/\d.cell? ⟨a.heap.size,6,none⟩=some (.string a6)) (go_keep)
   ((first
    |(go_at_call 56;refine b5.o.mono ?_;rintro a5 n ⟨bv,d8,rfl,ch⟩;have ag:Hd (Below j.heap.size wc n):=(by have H:=ch.below (B:=j.heap.size) (by exact bu.o) (fun c ar=>b1.o c ar);exact⟨H.os,H.tape,H.output,H.size,H.block⟩);have t:∀(g m:Nat),g<j.heap.size->n.cell? ⟨g,m,none⟩=wc.cell? ⟨g,m,none⟩:=(fun g m u=>ag.o.cell (p:=⟨g,m,none⟩) u);have c1:n.cell? ⟨b.pb,2,none⟩=_:=(t _ 2 bi).trans ax;have bA:n.cell? ⟨f,(e+c*18+1),none⟩=_:=(t _ _ A).trans a8;have bB:n.cell? ⟨f,(e+c*18+1+1),none⟩=_:=(t _ _ A).trans a9;have bC:n.cell? ⟨f,(e+c*18+1+2),none⟩=_:=(t _ _ A).trans aa;have bD:n.cell? ⟨f,(e+c*18+1+3),none⟩=_:=(t _ _ A).trans ab;have bE:n.cell? ⟨f,(e+c*18+1+4),none⟩=_:=(t _ _ A).trans ac;have bI:n.cell? ⟨f,(e+c*18+1+5),none⟩=_:=(t _ _ A).trans ad;have bO:n.cell? ⟨f,(e+c*18+1+6),none⟩=_:=(t _ _ A).trans ae;have bP:n.cell? ⟨f,(e+c*18+1+7),none⟩=_:=(t _ _ A).trans af;have bR:n.cell? ⟨a.heap.size,3,none⟩=_:=(t _ 3 K).trans b7;have bS:n.cell? ⟨a.heap.size,4,none⟩=_:=(t _ 4 K).trans al;have bT:n.cell? ⟨a.heap.size,5,none⟩=_:=(t _ 5 K).trans am;have c0:n.cell? ⟨a.heap.size,6,none⟩=_:=(t _ 6 K).trans b8)
    |(go_at_call 37;have aR:Hd (BB a n):=(O.o.trans ((D.o.trans ag.o).mono O.o.size));have o:Hd (Dj n s F w k):=aS.o.below aR.o;have S:Hd (a.heap.size<n.heap.size):=qN K (D.o.trans ag.o).size;refine(ah.o _ _ o.o (by show bv.toArray.size<=1000000;have:=aT.o;simp;omega)).mono ?_;rintro a5 r ⟨rfl,v,b9,ba,bb,c6,q⟩;have d2:r.cell? ⟨b.pb,2,none⟩=_:=(o.o.keepCell y.o q bo.o 2).trans c1;have cA:r.cell? ⟨f,(e+c*18+1),none⟩=_:=(o.o.keepCell y.o q E.o (e+c*18+1)).trans bA;have cB:r.cell? ⟨f,(e+c*18+1+1),none⟩=_:=(o.o.keepCell y.o q E.o (e+c*18+1+1)).trans bB;have cC:r.cell? ⟨f,(e+c*18+1+2),none⟩=_:=(o.o.keepCell y.o q E.o (e+c*18+1+2)).trans bC;have cD:r.cell? ⟨f,(e+c*18+1+3),none⟩=_:=(o.o.keepCell y.o q E.o (e+c*18+1+3)).trans bD;have cE:r.cell? ⟨f,(e+c*18+1+4),none⟩=_:=(o.o.keepCell y.o q E.o (e+c*18+1+4)).trans bE;have cI:r.cell? ⟨f,(e+c*18+1+5),none⟩=_:=(o.o.keepCell y.o q E.o (e+c*18+1+5)).trans bI;have cP:r.cell? ⟨f,(e+c*18+1+6),none⟩=_:=(o.o.keepCell y.o q E.o (e+c*18+1+6)).trans bO;have cR:r.cell? ⟨f,(e+c*18+1+7),none⟩=_:=(o.o.keepCell y.o q E.o (e+c*18+1+7)).trans bP;have cS:r.cell? ⟨a.heap.size,3,none⟩=_:=(o.o.keepOther q (by exact S.o) R.o Q.o 3).trans bR;have cT:r.cell? ⟨a.heap.size,4,none⟩=_:=(o.o.keepOther q (by exact S.o) R.o Q.o 4).trans bS;have d0:r.cell? ⟨a.heap.size,5,none⟩=_:=(o.o.keepOther q (by exact S.o) R.o Q.o 5).trans bT;have d1:r.cell? ⟨a.heap.size,6,none⟩=_:=(o.o.keepOther q (by exact S.o) R.o Q.o 6).trans c0)))
  all_goals
   have br:Hd (Dj r s F w v):=b9;have bn:Hd (Below s a r):=(aR.o.mono (EN co)).trans (o.o.frameBelow q);have ai:Hd (v.rs.length<=k.rs.length+2000000/\v.gs.length<=k.gs.length+0/\v.hs.length<=k.hs.length+1):=⟨ba,by rw[bb];omega,by omega⟩;clear b9 ba bb c6 q;go_wp2;go_ret;exact⟨rfl,v,br.o,ai.o.1,ai.o.2.1,ai.o.2.2,bn.o⟩
end
end Go.Proofs.YtekegfbjbainhaaGreat
