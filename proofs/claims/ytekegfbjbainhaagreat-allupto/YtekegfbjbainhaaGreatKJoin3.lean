import Derived.Test.YtekegfbjbainhaaGreatKJoin2
set_option maxRecDepth 100000
set_option maxHeartbeats 2000000
set_option linter.unusedVariables false
set_option linter.unusedSimpArgs false
namespace Go.Proofs.YtekegfbjbainhaaGreat
open Go.RowKit
theorem wj{P:Program}(b:World)(e c d:TypeId)(f:Option Addr)(p g:Nat)(a:List UInt8)(m:P.underlying e=some (.slice d))(k:P.underlying d=some (.int .u8))(j:P.underlying c=some .string)
  (v:p=a.length)(i:jq b f a)(w:f=none->g=0):(convert e c (.slice f p g)).run P b=.ok (.string ⟨a.toArray⟩) b:=by
 subst v;cases f with
 |none=>
  have:a=[]:=by
   cases a with
   |nil=>rfl
   |cons s r=>obtain⟨n,q,h,_⟩:=i 0 (by simp);cases h
  subst this;rw[w rfl];exact run_convert_bytes_nil b e d m k 0 0 c j
 |some s=>
  cases a with
  |nil=>
   exact run_convert_bytes_back b e c d s g [] m k j (fun o l=>absurd l (wN _))
  |cons x r=>
   obtain⟨n,q,h,_⟩:=i 0 (by simp);cases h;exact WJ b e c d n q g (x::r) m k j (fun o l=>by
    obtain⟨y,z,t,_,u⟩:=i o l;cases t;exact u)
def Vv(e:World)(d:Nat)(a b c:Value):Prop:=aj e d 91 [a,b,c]
theorem BU(n:Value)(d k:Option Addr)(a e c l:Nat)(j:World)(i:a<=maxLen)(m:c<=maxLen)(h:((decide (1<=a)&&decide (a<=12))&&decide (c<=12))=false):
  CP 41 #[n,.slice d a e,.slice k c l] j fun f o=>f=.returned (.int .i64 1)/\o=j:=by
 have g:Hd (a<=maxLen):=i;unfold maxLen at i m;by_cases b:(decide (1<=a)&&decide (a<=12))=true
 .have q:¬c<=12:=by rw[b]at h;simpa using h
  have r:(12:Int)<c:=by omega
  go_enter Tryz.func41,Tryz.ntmps41;go_wp2_with fail;refine(yq d a e _ g.o).mono ?_;rintro f p ⟨rfl,rfl⟩;rw[b];go_wp2;go_ret;exact⟨rfl,rfl⟩
 .have b:(decide (1<=a)&&decide (a<=12))=false:=by simpa using b
  go_enter Tryz.func41,Tryz.ntmps41;go_wp2_with fail;refine(yq d a e _ g.o).mono ?_;rintro f p ⟨rfl,rfl⟩;rw[b];go_wp2;go_ret;exact⟨rfl,rfl⟩
theorem Aq.none{b:World}{a:Option Addr}:Aq b a []:=jj.nil _ _
theorem CU(b:Nat)(D E:Value)(j m:Option Addr)(n u:Nat)(c value:List UInt8)(a:World)(a1:1<=c.length)(a2:c.length<=12)(ak:value.length<=12)
  (s:Vv a b (.slice none 0 0) D E)(T:jq a j c)(U:jq a m value)(a3:j=none->n=0)(a4:m=none->u=0):
  CP 41 #[.pointer (some ⟨b,0,none⟩),.slice j c.length n,.slice m value.length u] a fun h l=>h=.returned (.int .i64 0)/\
   ∃C,Vv l b C D E/\jz l a.heap.size C (Ek [] c value)/\bj (fun d=>d=b) a l:=by
 have k:b<a.heap.size:=s.lt;have o:a.cell? ⟨b,0,none⟩=some (.slice none 0 0):=s.cell 0 (by simp);have a0:a.frozen? ⟨b,0,none⟩=false:=s.frozen 0;have w:=fun(e:World) (v:Below a.heap.size a e)=>wj (P:=Tryz.prog) e 38 9 5 j c.length n c Tryz.underlying38 Tryz.underlying5 Tryz.underlying9 rfl (T.below v (TM _)) a3;have x:=fun(e:World) (v:Below a.heap.size a e)=>wj (P:=Tryz.prog) e 38 9 5 m value.length u value Tryz.underlying38 Tryz.underlying5 Tryz.underlying9 rfl (U.below v (TM _)) a4;have G:Hd (∀e,BB a e->_):=w;have H:Hd (∀e,BB a e->_):=x;have V:=w a (VM _ _);clear w x;have W:(decide (1<=c.length)&&decide (c.length<=12))=true:=by simp[a1,a2]
 have am:¬(12:Int)<value.length:=by omega
 have I:Hd (Ek [] c value=[⟨c,value,0⟩]):=rfl;have J:Hd (∀a,a.cell? ⟨b,0,none⟩=some (.slice none 0 0)->Aq a none []->CP 80 #[.pointer (some ⟨b,0,none⟩),Hz c] a fun h l=>h=.returned (.tuple #[.int .i64 0,.bool false])/\∃a5,l=a.drewN a5):=fun a Q R=>Kw b none 0 [] c a (by simp) Q R;go_enter Tryz.func41,Tryz.ntmps41;go_wp2_with fail;refine(yq j _ n _ (by unfold maxLen;omega)).mono ?_;rintro h a8 ⟨rfl,B⟩;obtain rfl:a=a8:=B.symm;clear B;rw[W];go_wp2_with fail;refine(J.o _ o Aq.none).mono ?_;rintro h ap ⟨rfl,an,rfl⟩;clear V;go_wp2_with (first
  |(at_builtin;refine Bq (by rfl) (.tmp 37) (.tmp 43) (by rfl) a.heap.size (.slice none 0 0) [] (by rfl) (iN _ _ _ _) none 0 0 [] (by rfl) (by rfl) Aq.none (fun _=>⟨rfl,rfl⟩) (by simp) (by exact TM _) ?_;intro K a6 M i y X af;have f:Below a.heap.size a i:=Pz (X.below (by exact TM _) (fun d g=>by simp[Value.ownBlock]at g));have ac:i.cell? ⟨b,0,none⟩=some (.slice none 0 0):=(by rw[f.cell (p:=⟨b,0,none⟩) k];exact o);have ai:=G.o i f;have al:=H.o i f)
  |(at_builtin;refine Bq (by rfl) (.tmp 45) (.tmp 51) (by rfl) a.heap.size (.slice K a6 M) ([]++[]) (by rfl) (y.alloc _) (some ⟨i.heap.size,0,none⟩) 1 1 [⟨c,value,0⟩] (by rfl) (by rfl) (by exact jj.alloc_new i _ _) (fun O=>by cases O) (by simp) (by have:=f.size;simp only[YM];omega) ?_;intro L a7 N F z Y ag;have q:Below a.heap.size a F:=(f.alloc (by have:=f.size;omega) _).trans (Y.below (by have:=f.size;simp only[YM];omega) (fun d g=>(y.lt d g).1));have ad:F.cell? ⟨b,0,none⟩=some (.slice none 0 0):=(by rw[q.cell (p:=⟨b,0,none⟩) k];exact o))
  |(at_builtin;refine Bq (by rfl) (.tmp 57) (.tmp 63) (by rfl) a.heap.size (.slice L a7 N) ([]++[]++[⟨c,value,0⟩]) (by rfl) z none 0 0 [] (by rfl) (by rfl) Aq.none (fun _=>⟨rfl,rfl⟩) (by simp) (by have:=q.size;omega) ?_;intro a9 ao aa t A Z ah;have r:Below a.heap.size a t:=q.trans (Z.below (by have:=q.size;omega) (fun d g=>(z.lt d g).1));have ae:t.cell? ⟨b,0,none⟩=some (.slice none 0 0):=(by rw[r.cell (p:=⟨b,0,none⟩) k];exact o);have ab:t.frozen? ⟨b,0,none⟩=false:=(by rw[r.frozen (p:=⟨b,0,none⟩) k];exact a0)))
 go_ret;refine⟨rfl,_,(s.below k r).set 0 _,?_,(bj.of_below_all (S:=fun d=>d=b) r).setCell (p:=⟨b,0,none⟩) rfl _⟩;rw[I.o];exact ij A ((bj.refl (fun d=>d=b) t).setCell (p:=⟨b,0,none⟩) rfl _) (fun d g h=>by have:=(A.lt d g).1;omega)
theorem YK(d:Nat)(s H I:Value)(e u:Option Addr)(h k w v:Nat)(c:List ej)(b:List UInt8)(a:World)(B:1<=b.length)(C:b.length<=12)(L:k<=12)(E:c.length=60)
  (p:Vv a d s H I)(o:jz a v s c)(z:jq a e b)(D:e=none->h=0)(F:Qj c b=false):
  CP 41 #[.pointer (some ⟨d,0,none⟩),.slice e b.length h,.slice u k w] a fun f l=>f=.returned (.int .i64 2)/\∃j,l=a.drewN j:=by
 obtain⟨g,i,rfl,q,_⟩:=Nj o;have n:a.cell? ⟨d,0,none⟩=some (.slice g c.length i):=p.cell 0 (by simp);have K:=wj (P:=Tryz.prog) a 38 9 5 e b.length h b Tryz.underlying38 Tryz.underlying5 Tryz.underlying9 rfl z D;have A:(decide (1<=b.length)&&decide (b.length<=12))=true:=by simp[B,C]
 have M:¬(12:Int)<k:=by omega
 have m:Hd (∀a,a.cell? ⟨d,0,none⟩=some (.slice g c.length i)->Aq a g c->CP 80 #[.pointer (some ⟨d,0,none⟩),Hz b] a fun f l=>f=.returned (.tuple #[.int .i64 (pj c b:Int),.bool false])/\∃j,l=a.drewN j):=fun a x y=>by have:=Kw d g i c b a (by omega) x y;rw[F]at this;exact this
 generalize pj c b=N at*;have t:Hd (Calls _ _ _ _ _):=m.o a n q;rw[E]at n;clear m o p q;go_enter Tryz.func41,Tryz.ntmps41;go_wp2_with fail;refine(yq e _ h _ (by unfold maxLen;omega)).mono ?_;rintro f J ⟨rfl,r⟩;obtain rfl:a=J:=r.symm;clear r;rw[A];go_wp2_with fail;refine t.o.mono ?_;rintro f O ⟨rfl,G,rfl⟩;go_wp2;go_ret;exact⟨rfl,G,rfl⟩
theorem ZK(b j e o:Nat)(aI aO:Value)(M a0:Option Addr)(T a7 aS:Nat)(c:List ej)(i value:List UInt8)(a:World)(b8:1<=i.length)(b9:i.length<=12)(br:value.length<=12)(bb:c.length<=60)(U:e=c.length)
  (G:Vv a b (.slice (some ⟨j,0,none⟩) e o) aI aO)(b1:jz a aS (.slice (some ⟨j,0,none⟩) e o) c)(b0:jq a M i)(b2:jq a a0 value)(ba:M=none->T=0)(bd:a0=none->a7=0)(aA:Qj c i=false->c.length<60):
  CP 41 #[.pointer (some ⟨b,0,none⟩),.slice M i.length T,.slice a0 value.length a7] a fun B al=>B=.returned (.int .i64 0)/\
   ∃aE,Vv al b aE aI aO/\jz al a.heap.size aE (Ek c i value)/\bj (fun d=>d=b) a al:=by
 have a1:=b1;rw[U]at a1;obtain⟨_,b3,b5,b7⟩:=vj a1;obtain⟨_,_,be,a4,_⟩:=Nj a1;cases be;clear b7 a1;unfold maxLen at b5;have q:b<a.heap.size:=G.lt;have t:a.cell? ⟨b,0,none⟩=some (.slice (some ⟨j,0,none⟩) e o):=G.cell 0 (by simp);have a3:a.frozen? ⟨b,0,none⟩=false:=G.frozen 0;have ag:=fun(A:World) (ac:Below a.heap.size a A)=>wj (P:=Tryz.prog) A 38 9 5 M i.length T i Tryz.underlying38 Tryz.underlying5 Tryz.underlying9 rfl (b0.below ac (TM _)) ba;have av:=fun(A:World) (ac:Below a.heap.size a A)=>wj (P:=Tryz.prog) A 38 9 5 a0 value.length a7 value Tryz.underlying38 Tryz.underlying5 Tryz.underlying9 rfl (b2.below ac (TM _)) bd;have W:Hd (∀A,BB a A->_):=ag;have X:Hd (∀A,BB a A->_):=av;have a2:=ag a (VM _ _);clear ag av;have ax:(decide (1<=i.length)&&decide (i.length<=12))=true:=by simp[b8,b9]
 have bs:¬(12:Int)<value.length:=by omega
 have aB:=Ky c i;have Q:Hd (Ek c i value=c.take (pj c i)++[⟨i,value,0⟩]++c.drop (if Qj c i then pj c i+1 else pj c i)):=rfl;have aR:Hd (Qj c i=true->pj c i<c.length):=Lv;have ao:Hd (∀a,a.cell? ⟨b,0,none⟩=some (.slice (some ⟨j,0,none⟩) e o)->Aq a (some ⟨j,0,none⟩) c->_):=fun a au aT=>by rw[U]at au;exact Kw b (some ⟨j,0,none⟩) o c i a (by omega) au aT
 have aP:Hd (Qj c i=false->c.length<60):=aA;clear aA;generalize pj c i=f at*;generalize Qj c i=N at*;have bl:(f:Int)<=o:=by omega
 have bm:(f:Int)<=e:=by omega
 have bh:(o:Int)<=9223372036854775807:=by omega
 obtain⟨l,v⟩:∃l,l=if N=true then f+1 else f:=⟨_,rfl⟩
 rw[<-v]at Q;have aC:l<=c.length:=by
  cases N
  .simp at v;omega
  .have:=aR.o rfl;simp at v;omega
 have bn:(l:Int)<=o:=by omega
 have bo:(l:Int)<=e:=by omega
 have bi:(e:Int)<=o:=by omega
 have bk:e<=o:=by omega
 have bp:l<=e:=by omega
 have ap:Hd (Aq a (some ⟨j,0,none⟩) c):=a4;have Y:Hd (Aq a (some ⟨j,0,none⟩) (c.take f)):=Aq.take a4 f aB;have R:Hd (Aq a (some ⟨j,l*3,none⟩) (c.drop l)):=by have:=Aq.drop a4 l aC;rw[sN]at this;exact this
 have Z:Hd (f=(c.take f).length):=by unfold Hd;rw[aN];omega
 have O:Hd (e - l=(c.drop l).length):=by unfold Hd;rw[oN,U]
 have u:Hd ((c.take f).length+1+(c.drop l).length<=1000):=by unfold Hd;rw[aN,oN];omega
 have aD:N=false->((e:Int)==60)=false:=fun bc=>by have:=aP.o bc;simp;omega
 have ar:Hd (N=false->((e:Int)==60)=false):=aD;have an:Hd (e=c.length):=U;clear aD a4 U aB aC b3 bb;by_cases b4:o=l
 .have R:Hd (Aq a (some ⟨j,0,none⟩) (c.drop l)):=by
   unfold Hd;rw[xaj (by have:=an.o;omega)];exact Aq.none
  have O:Hd (0=(c.drop l).length):=by
   unfold Hd;rw[oN];have:=an.o;omega
  subst b4;obtain rfl:e=o:=by omega
  go_enter Tryz.func41,Tryz.ntmps41;go_wp2_with fail;refine(yq M _ T _ (by unfold maxLen;omega)).mono ?_;rintro B am ⟨rfl,V⟩;obtain rfl:a=am:=V.symm;clear V;rw[ax];go_wp2_with fail;refine(ao.o _ t ap.o).mono ?_;rintro B bg ⟨rfl,bf,rfl⟩;cases N
  .have b6:((e:Int)==60)=false:=ar.o rfl;obtain rfl:e=f:=by simpa using v
   clear v a2;go_wp2_with (first
    |(at_builtin;refine Bq (by rfl) (.tmp 37) (.tmp 43) (by rfl) a.heap.size (.slice none 0 0) [] (by rfl) (iN _ _ _ _) (some ⟨j,0,none⟩) e e (c.take e) (by rfl) Z.o (by exact Y.o) (fun m=>by cases m) (by have:=u.o;simp only[baj];omega) (by exact TM _) ?_;intro C K E k w H ad;have g:Below a.heap.size a k:=Pz (H.below (by exact TM _) (fun d h=>by simp[Value.ownBlock]at h));have a9:k.cell? ⟨b,0,none⟩=some (.slice (some ⟨j,0,none⟩) e e):=(by rw[g.cell (p:=⟨b,0,none⟩) q];exact t);have ah:=W.o k g;have ai:=X.o k g)
    |(at_builtin;refine Bq (by rfl) (.tmp 45) (.tmp 51) (by rfl) a.heap.size (.slice C K E) ([]++c.take e) (by rfl) (w.alloc _) (some ⟨k.heap.size,0,none⟩) 1 1 [⟨i,value,0⟩] (by rfl) (by rfl) (by exact jj.alloc_new k _ _) (fun m=>by cases m) (by have:=u.o;simp only[ON,VN];omega) (by have:=g.size;simp only[YM];omega) ?_;intro D L F z x I ae;have n:Below a.heap.size a z:=(g.alloc (by have:=g.size;omega) _).trans (I.below (by have:=g.size;simp only[YM];omega) (fun d h=>(w.lt d h).1));have aa:z.cell? ⟨b,0,none⟩=some (.slice (some ⟨j,0,none⟩) e e):=(by rw[n.cell (p:=⟨b,0,none⟩) q];exact t))
    |(at_builtin;refine Bq (by rfl) (.tmp 57) (.tmp 63) (by rfl) a.heap.size (.slice D L F) ([]++c.take e++[⟨i,value,0⟩]) (by rfl) x (some ⟨j,0,none⟩) 0 0 (c.drop e) (by rfl) (by exact O.o) (by exact jj.below_all R.o n) (fun m=>by cases m) (by have:=u.o;simp only[ON,XM,VN];omega) (by have:=n.size;omega) ?_;intro a5 ak a6 s y J af;have r:Below a.heap.size a s:=n.trans (J.below (by have:=n.size;omega) (fun d h=>(x.lt d h).1));have ab:s.cell? ⟨b,0,none⟩=some (.slice (some ⟨j,0,none⟩) e e):=(by rw[r.cell (p:=⟨b,0,none⟩) q];exact t);have a8:s.frozen? ⟨b,0,none⟩=false:=(by rw[r.frozen (p:=⟨b,0,none⟩) q];exact a3)))
   go_ret;refine⟨rfl,_,(G.below q r).set 0 _,?_,(bj.of_below_all (S:=fun d=>d=b) r).setCell (p:=⟨b,0,none⟩) rfl _⟩;rw[Q.o];exact ij y ((bj.refl (fun d=>d=b) s).setCell (p:=⟨b,0,none⟩) rfl _) (fun d h B=>by have:=(y.lt d h).1;omega)
  .obtain rfl:e=f+1:=by simpa using v
   clear v a2;go_wp2_with (first
    |(at_builtin;refine Bq (by rfl) (.tmp 37) (.tmp 43) (by rfl) a.heap.size (.slice none 0 0) [] (by rfl) (iN _ _ _ _) (some ⟨j,0,none⟩) f (f+1) (c.take f) (by rfl) Z.o (by exact Y.o) (fun m=>by cases m) (by have:=u.o;simp only[baj];omega) (by exact TM _) ?_;intro C K E k w H ad;have g:Below a.heap.size a k:=Pz (H.below (by exact TM _) (fun d h=>by simp[Value.ownBlock]at h));have a9:k.cell? ⟨b,0,none⟩=some (.slice (some ⟨j,0,none⟩) (f+1) (f+1)):=(by rw[g.cell (p:=⟨b,0,none⟩) q];exact t);have ah:=W.o k g;have ai:=X.o k g)
    |(at_builtin;refine Bq (by rfl) (.tmp 45) (.tmp 51) (by rfl) a.heap.size (.slice C K E) ([]++c.take f) (by rfl) (w.alloc _) (some ⟨k.heap.size,0,none⟩) 1 1 [⟨i,value,0⟩] (by rfl) (by rfl) (by exact jj.alloc_new k _ _) (fun m=>by cases m) (by have:=u.o;simp only[ON,VN];omega) (by have:=g.size;simp only[YM];omega) ?_;intro D L F z x I ae;have n:Below a.heap.size a z:=(g.alloc (by have:=g.size;omega) _).trans (I.below (by have:=g.size;simp only[YM];omega) (fun d h=>(w.lt d h).1));have aa:z.cell? ⟨b,0,none⟩=some (.slice (some ⟨j,0,none⟩) (f+1) (f+1)):=(by rw[n.cell (p:=⟨b,0,none⟩) q];exact t))
    |(at_builtin;refine Bq (by rfl) (.tmp 57) (.tmp 63) (by rfl) a.heap.size (.slice D L F) ([]++c.take f++[⟨i,value,0⟩]) (by rfl) x (some ⟨j,0,none⟩) 0 0 (c.drop (f+1)) (by rfl) (by exact O.o) (by exact jj.below_all R.o n) (fun m=>by cases m) (by have:=u.o;simp only[ON,XM,VN];omega) (by have:=n.size;omega) ?_;intro a5 ak a6 s y J af;have r:Below a.heap.size a s:=n.trans (J.below (by have:=n.size;omega) (fun d h=>(x.lt d h).1));have ab:s.cell? ⟨b,0,none⟩=some (.slice (some ⟨j,0,none⟩) (f+1) (f+1)):=(by rw[r.cell (p:=⟨b,0,none⟩) q];exact t);have a8:s.frozen? ⟨b,0,none⟩=false:=(by rw[r.frozen (p:=⟨b,0,none⟩) q];exact a3)))
   go_ret;refine⟨rfl,_,(G.below q r).set 0 _,?_,(bj.of_below_all (S:=fun d=>d=b) r).setCell (p:=⟨b,0,none⟩) rfl _⟩;rw[Q.o];exact ij y ((bj.refl (fun d=>d=b) s).setCell (p:=⟨b,0,none⟩) rfl _) (fun d h B=>by have:=(y.lt d h).1;omega)
 .go_enter Tryz.func41,Tryz.ntmps41;go_wp2_with fail;refine(yq M _ T _ (by unfold maxLen;omega)).mono ?_;rintro B am ⟨rfl,V⟩;obtain rfl:a=am:=V.symm;clear V;rw[ax];go_wp2_with fail;refine(ao.o _ t ap.o).mono ?_;rintro B bg ⟨rfl,bf,rfl⟩;cases N
  .have b6:((e:Int)==60)=false:=ar.o rfl;obtain rfl:l=f:=by simpa using v
   clear v a2;go_wp2_with (first
    |(at_builtin;refine Bq (by rfl) (.tmp 37) (.tmp 43) (by rfl) a.heap.size (.slice none 0 0) [] (by rfl) (iN _ _ _ _) (some ⟨j,0,none⟩) l o (c.take l) (by rfl) Z.o (by exact Y.o) (fun m=>by cases m) (by have:=u.o;simp only[baj];omega) (by exact TM _) ?_;intro C K E k w H ad;have g:Below a.heap.size a k:=Pz (H.below (by exact TM _) (fun d h=>by simp[Value.ownBlock]at h));have a9:k.cell? ⟨b,0,none⟩=some (.slice (some ⟨j,0,none⟩) e o):=(by rw[g.cell (p:=⟨b,0,none⟩) q];exact t);have ah:=W.o k g;have ai:=X.o k g)
    |(at_builtin;refine Bq (by rfl) (.tmp 45) (.tmp 51) (by rfl) a.heap.size (.slice C K E) ([]++c.take l) (by rfl) (w.alloc _) (some ⟨k.heap.size,0,none⟩) 1 1 [⟨i,value,0⟩] (by rfl) (by rfl) (by exact jj.alloc_new k _ _) (fun m=>by cases m) (by have:=u.o;simp only[ON,VN];omega) (by have:=g.size;simp only[YM];omega) ?_;intro D L F z x I ae;have n:Below a.heap.size a z:=(g.alloc (by have:=g.size;omega) _).trans (I.below (by have:=g.size;simp only[YM];omega) (fun d h=>(w.lt d h).1));have aa:z.cell? ⟨b,0,none⟩=some (.slice (some ⟨j,0,none⟩) e o):=(by rw[n.cell (p:=⟨b,0,none⟩) q];exact t))
    |(at_builtin;refine Bq (by rfl) (.tmp 57) (.tmp 63) (by rfl) a.heap.size (.slice D L F) ([]++c.take l++[⟨i,value,0⟩]) (by rfl) x (some ⟨j,l*3,none⟩) (e - l) (o - l) (c.drop l) (by rfl) (by exact O.o) (by exact jj.below_all R.o n) (fun m=>by cases m) (by have:=u.o;simp only[ON,XM,VN];omega) (by have:=n.size;omega) ?_;intro a5 ak a6 s y J af;have r:Below a.heap.size a s:=n.trans (J.below (by have:=n.size;omega) (fun d h=>(x.lt d h).1));have ab:s.cell? ⟨b,0,none⟩=some (.slice (some ⟨j,0,none⟩) e o):=(by rw[r.cell (p:=⟨b,0,none⟩) q];exact t);have a8:s.frozen? ⟨b,0,none⟩=false:=(by rw[r.frozen (p:=⟨b,0,none⟩) q];exact a3)))
   go_ret;refine⟨rfl,_,(G.below q r).set 0 _,?_,(bj.of_below_all (S:=fun d=>d=b) r).setCell (p:=⟨b,0,none⟩) rfl _⟩;rw[Q.o];exact ij y ((bj.refl (fun d=>d=b) s).setCell (p:=⟨b,0,none⟩) rfl _) (fun d h B=>by have:=(y.lt d h).1;omega)
  .obtain rfl:l=f+1:=by simpa using v
   clear v a2;go_wp2_with (first
    |(at_builtin;refine Bq (by rfl) (.tmp 37) (.tmp 43) (by rfl) a.heap.size (.slice none 0 0) [] (by rfl) (iN _ _ _ _) (some ⟨j,0,none⟩) f o (c.take f) (by rfl) Z.o (by exact Y.o) (fun m=>by cases m) (by have:=u.o;simp only[baj];omega) (by exact TM _) ?_;intro C K E k w H ad;have g:Below a.heap.size a k:=Pz (H.below (by exact TM _) (fun d h=>by simp[Value.ownBlock]at h));have a9:k.cell? ⟨b,0,none⟩=some (.slice (some ⟨j,0,none⟩) e o):=(by rw[g.cell (p:=⟨b,0,none⟩) q];exact t);have ah:=W.o k g;have ai:=X.o k g)
    |(at_builtin;refine Bq (by rfl) (.tmp 45) (.tmp 51) (by rfl) a.heap.size (.slice C K E) ([]++c.take f) (by rfl) (w.alloc _) (some ⟨k.heap.size,0,none⟩) 1 1 [⟨i,value,0⟩] (by rfl) (by rfl) (by exact jj.alloc_new k _ _) (fun m=>by cases m) (by have:=u.o;simp only[ON,VN];omega) (by have:=g.size;simp only[YM];omega) ?_;intro D L F z x I ae;have n:Below a.heap.size a z:=(g.alloc (by have:=g.size;omega) _).trans (I.below (by have:=g.size;simp only[YM];omega) (fun d h=>(w.lt d h).1));have aa:z.cell? ⟨b,0,none⟩=some (.slice (some ⟨j,0,none⟩) e o):=(by rw[n.cell (p:=⟨b,0,none⟩) q];exact t))
    |(at_builtin;refine Bq (by rfl) (.tmp 57) (.tmp 63) (by rfl) a.heap.size (.slice D L F) ([]++c.take f++[⟨i,value,0⟩]) (by rfl) x (some ⟨j,(f+1)*3,none⟩) (e - (f+1)) (o - (f+1)) (c.drop (f+1)) (by rfl) (by exact O.o) (by exact jj.below_all R.o n) (fun m=>by cases m) (by have:=u.o;simp only[ON,XM,VN];omega) (by have:=n.size;omega) ?_;intro a5 ak a6 s y J af;have r:Below a.heap.size a s:=n.trans (J.below (by have:=n.size;omega) (fun d h=>(x.lt d h).1));have ab:s.cell? ⟨b,0,none⟩=some (.slice (some ⟨j,0,none⟩) e o):=(by rw[r.cell (p:=⟨b,0,none⟩) q];exact t);have a8:s.frozen? ⟨b,0,none⟩=false:=(by rw[r.frozen (p:=⟨b,0,none⟩) q];exact a3)))
   go_ret;refine⟨rfl,_,(G.below q r).set 0 _,?_,(bj.of_below_all (S:=fun d=>d=b) r).setCell (p:=⟨b,0,none⟩) rfl _⟩;rw[Q.o];exact ij y ((bj.refl (fun d=>d=b) s).setCell (p:=⟨b,0,none⟩) rfl _) (fun d h B=>by have:=(y.lt d h).1;omega)
abbrev Av:=dj×List (dj×List ej)
def px(b:World)(c d:Nat)(a:Av):Prop:=JJ b c a.1.val d a.2/\∀e∈a.2,eQ b c e
def XF(a:List Av):List Value:=a.map (fun b=>b.1.val)
def pz(a:List Av):List (List (List ej)):=a.map (fun b=>b.2.map (·.2))
def gQ(b:World)(c:Nat)(d:Value)(a:List Av):Prop:=b.ownsRow c 188 1 d a.length (XF a)
theorem Tryz.infoPages:(Tryz.prog.info? 188).map (fun a=>(a.zero,a.size,a.bytes))=some (some (.slice none 0 0),1,24):=by kernel_rfl
theorem BX{b:World}{s:Array Oper}{rest:List Oper}{h:Oper}{d:Act}{o:Exit->Act->World->Prop}(v:h.guard=none)(m n:Operand)
  (x:h.op=.call {callee:=.builtin .append,args:=#[m,n],argTypes:=#[144,144]})
  (f:Nat)(i:Value)(a:List Av)(z:d.eval m=i)(y:gQ b f i a)
  (j:Addr)(l:Av)(A:d.eval n=.slice (some j) 1 1)(w:jj b (some j) [l.1.val])
  (D:a.length<=1000000)(t:f<=b.heap.size)
  (k:∀e r g c,gQ c f (.slice e r g) (a++[l])->bj (fun B=>i.ownBlock=some B) b c->wpList Tryz.prog s o rest (d.put h.dst (.slice e r g)) c):
  wpList Tryz.prog s o (h::rest) d b:=by
 refine rq v m n 144 x f 188 _ 1 24 Tryz.underlying144 Tryz.infoPages rfl (by decide) i a.length (XF a) z y (some j) 1 1 [l.1.val] A rfl w (fun k=>by cases k) (fun E q=>by simp at q;subst q;rfl) (by unfold maxLen;omega) (by omega) t ?_;intro F c p u C;obtain⟨e,g,rfl,_⟩:=Nj p;refine k e _ g c ?_ u;unfold gQ XF;rw[XM,rN];exact p
theorem Tryz.sizeTree:(Tryz.prog.info? 146).map (·.size)=some 1:=by kernel_rfl
structure ny(w W:World)(lv:dj)(lvls:List Av):Prop where
 hb:Below w.heap.size w W
 hr:aj W w.heap.size 146 [.slice none 0 0]
 ht:aj W (w.heap.size+1) 146 [lv.val]
 ho:gQ W (w.heap.size+2) lv.val lvls
 hl:∀i (h:i<lvls.length),px W w.heap.size i lvls[i]
theorem px.below{a b:World}{c f:Nat}{g:Av}(d:px a c f g)(e:Below a.heap.size a b):px b c f g:=⟨lj d.1 e,fun i h=>lj (d.2 i h) e⟩
theorem px.frame{d e:World}{S:Nat->Prop}{f j:Nat}{c:Av}(g:px d f j c)(h:bj S d e)(k:∀a,c.1.val.ownBlock=some a->¬S a)(l:∀b∈c.2,∀a,b.1.val.ownBlock=some a->¬S a):px e f j c:=⟨ij g.1 h k,fun b i=>ij (g.2 b i) h (l b i)⟩
theorem px.base{d:World}{e f i:Nat}{q:Av}(a:px d e i q)(g:f<=e):px d f i q:=
 ⟨Hj a.1 (fun c b=>WM g (a.1.lt c b).1),fun j h=>Hj (a.2 j h) (fun c b=>WM g ((a.2 j h).lt c b).1)⟩
theorem ny.next{g c d:World}{e:dj}{f:List Av}(a:ny g c e f)(b:Below c.heap.size c d):ny g d e f:=
 ⟨a.hb.trans (b.mono a.hb.size),a.hr.below a.hr.lt b,a.ht.below a.ht.lt b,lj a.ho b,fun i h=>(a.hl i h).below b⟩
theorem ny.push{a i g:World}{w lv':dj}{h:List Av}{q:Av}(c:ny a i w h)(z:px i a.heap.size h.length q)(v:gQ g (a.heap.size+2) lv'.val (h++[q]))(j:bj (fun b=>w.val.ownBlock=some b) i g):
  ny a (g.setCell ⟨a.heap.size+1,0,none⟩ lv'.val) lv' (h++[q]):=by
 have B:=c.hb.size;have x:Below a.heap.size a g:=c.hb.trans (j.below B (fun b e=>by have:=(c.ho.lt b e).1;omega));have A:=c.hr.of_block (j.block _ c.hr.lt (fun d=>xj c.ho c.hr (by decide) d));have n:=c.ht.of_block (j.block _ c.ht.lt (fun d=>xj c.ho c.ht (by decide) d));have s:bj (fun b=>b=a.heap.size+1) g (g.setCell ⟨a.heap.size+1,0,none⟩ lv'.val):=(bj.refl (fun b=>b=a.heap.size+1) _).setCell (p:=⟨a.heap.size+1,0,none⟩) rfl _;have u:∀f k,px i a.heap.size f k->px (g.setCell ⟨a.heap.size+1,0,none⟩ lv'.val) a.heap.size f k:=fun f k o=>by
  have l:px g a.heap.size f k:=o.frame j (fun b e d=>Dv o.1 c.ho (by decide) b e d) (fun r m b e d=>Dv (o.2 r m) c.ho (by decide) b e d);exact l.frame s (fun b e d=>xj l.1 n (by decide) (by rw[e,d])) (fun r m b e d=>xj (l.2 r m) n (by decide) (by rw[e,d]))
 refine⟨x.setCell (by show a.heap.size<=a.heap.size+1;omega) _,A.other (by show a.heap.size≠a.heap.size+1;omega) _,by simpa using n.set 0 lv'.val,ij v s (fun b e d=>by have:=(v.lt b e).1;omega),fun f y=>?_⟩;by_cases t:f<h.length
 .rw[kaj t];exact u f _ (c.hl f t)
 .have:f=h.length:=by simp at y;omega
  subst this;rw[haj (by omega)];simpa using u _ q z
theorem jj.ofOwn{a:World}{e f i c:Nat}{s:dj}{d:List Value}(g:a.ownsRow e f i s.val c d):jj a s.a d/\s.n=c:=by
 obtain⟨j,k,b,h,_⟩:=Nj g;unfold dj.val at b;cases b;exact⟨h,rfl⟩
def YF(b:World)(e:List ej)(f:dj)(d:World):Prop:=
 ∃a:List Av,gQ d b.heap.size f.val a/\(∀c (g:c<a.length),px d b.heap.size c a[c])/\pz a=Rj e/\Below b.heap.size b d
theorem SQ(R:dj)(J:List ej)(b:World)(cl:R.n=J.length)(cj:J.length<=200)(co:∀aE∈J,Dq aE)(bv:Aq b R.a J):
  CP 84 #[.slice R.a R.n R.cap] b fun z cR=>∃h:dj,z=.returned (.agg #[.slice h.a h.n h.cap])/\YF b J h cR:=by
 have bD:ny b ((b.alloc (.cells #[.slice none 0 0] 146)).alloc (.cells #[.slice none 0 0] 146)) ⟨none,0,0⟩ []:=
  ⟨by go_grown,(aj.new b _ _).alloc _,aj.new_at _ _ _ _ (by simp),iN _ _ _ _,fun Y an=>absurd an (wN _)⟩
 have bw:Aq ((b.alloc (.cells #[.slice none 0 0] 146)).alloc (.cells #[.slice none 0 0] 146)) R.a J:=jj.below_all bv (by go_grown);go_enter Tryz.func84,Tryz.ntmps84;go_wp2
 go_loopw [0,4] (fun cI aB wr=>∃(a:Nat) (K:dj) (e:List ej) (h:dj) (x:List Av),a<=6/\aB=.int .i64 a/\cI=.slice K.a K.n K.cap/\Aq wr K.a e/\K.n=e.length/\e.length<=200/\(∀aE∈e,Dq aE)/\ny b wr h x/\x.length=a/\Hd (pz x++Eq (7 - a) a e=Rj J)) (fun _ aB _=>7 - (intOf aB).toNat)
 case atStart=>exact⟨0,R,J,_,[],by omega,by simp,rfl,bw,cl,cj,co,bD,rfl,by simp[Hd,pz,Rj]⟩
 case round=>
  obtain⟨a,K,e,h,x,O,rfl,rfl,bB,bd,ck,bl,ax,bb,aO⟩:=hrel;have a0:Hd (x.length=a):=bb;have c4:Hd (K.n=e.length):=bd;clear bb bd;have d6:(a:Int)<=6:=by omega
  go_wp2_with fail;refine(AU a K.a K.n K.cap e wr c4.o ck (by omega) bl bB).mono ?_;rintro z Q ⟨d,rfl,g,ap,bn,a9,cg⟩;have W:=ax.next cg;have b1:=W.ht.cell 0 (by simp);have ce:=W.ht.frozen 0;simp only[cN,dj.val]at b1;have Z:(nj a e).length=g.length:=by rw[<-a9];simp
  have d7:g.length<=201:=by rw[<-Z];have:=(Ly a e []).2;unfold nj;omega
  obtain⟨db,bm⟩:=jj.ofOwn ap;have a1:Hd (d.n=g.length):=bm;have aa:px Q b.heap.size x.length (d,g):=by
   rw[a0.o];exact px.base (q:=(d,g)) ⟨ap,bn⟩ ax.hb.size
  have T:Hd (gQ (Q.alloc (.cells #[.slice d.a d.n d.cap] 188)) (b.heap.size+2) (.slice h.a h.n h.cap) x):=W.ho.alloc _;have aS:Hd (jj (Q.alloc (.cells #[.slice d.a d.n d.cap] 188)) (some ⟨Q.heap.size,0,none⟩) [((d,g):Av).1.val]):=jj.alloc_new Q _ _;have aP:Hd (x.length<=1000000):=by unfold Hd;rw[a0.o];omega
  have b0:Hd (b.heap.size+2<=(Q.alloc (.cells #[.slice d.a d.n d.cap] 188)).heap.size):=by unfold Hd;have:=W.ht.lt;simp;omega
  have A:=W.next ((VM _ _).alloc (TM _) (.cells #[.slice d.a d.n d.cap] 188));have av:=aa.below ((VM _ _).alloc (TM _) (.cells #[.slice d.a d.n d.cap] 188));clear bm ax bB bw bD bv ap bn aa W;by_cases M:g.length=1
  .have cm:((d.n:Int)==1)=true:=by rw[a1.o,M];rfl
   have ah:Hd (pz (x++[(d,g)])=Rj J):=by
    have F:=aO.o;rw[show 7 - a=(6 - a)+1 by omega,Eq,if_pos (by rw[Z];exact M)]at F;unfold Hd pz at*;rw[rN,ZM,dN,a9];exact F
   go_wp2_with (at_builtin;refine BX (by rfl) (.tmp 15) (.tmp 17) (by rfl) (b.heap.size+2) (.slice h.a h.n h.cap) x (by rfl) T.o ⟨Q.heap.size,0,none⟩ (d,g) (by rfl) aS.o aP.o b0.o ?_;intro B E C y a6 N;have V:aj y b.heap.size 146 [.slice none 0 0]:=A.hr.of_block (N.block _ A.hr.lt (fun z=>xj T.o A.hr (by decide) z));have X:aj y (b.heap.size+1) 146 [h.val]:=A.ht.of_block (N.block _ A.ht.lt (fun z=>xj T.o A.ht (by decide) z));have bI:y.cell? ⟨b.heap.size,0,none⟩=some (.slice none 0 0):=V.cell 0 (by simp);have bO:y.cell? ⟨b.heap.size+1,0,none⟩=some (.slice h.a h.n h.cap):=X.cell 0 (by simp);have bP:y.frozen? ⟨b.heap.size,0,none⟩=false:=V.frozen 0;have bR:y.frozen? ⟨b.heap.size+1,0,none⟩=false:=X.frozen 0);have I:ny b (y.setCell ⟨b.heap.size+1,0,none⟩ (.slice B E C)) ⟨B,E,C⟩ (x++[(d,g)]):=ny.push (lv':=⟨B,E,C⟩) (q:=(d,g)) A av a6 N;refine Cv (k:=2) (cs:=[.slice B E C]) rfl rfl (by exact I.hr.set 0 _) Tryz.underlying146 rfl Tryz.sizeTree rfl ?_;refine⟨⟨B,E,C⟩,rfl,x++[(d,g)],?_,?_,ah.o,I.hb.setCell (by exact TM _) _⟩
   .exact Hj (ij I.ho ((bj.refl (fun a=>a=b.heap.size) _).setCell (p:=⟨b.heap.size,0,none⟩) rfl _) (fun a O z=>by have:=(I.ho.lt a O).1;omega)) (fun a O=>by have:=(I.ho.lt a O).1;omega)
   .intro Y an;have aA:=I.hl Y an;exact aA.frame ((bj.refl (fun a=>a=b.heap.size) _).setCell (p:=⟨b.heap.size,0,none⟩) rfl _) (fun a O z=>xj aA.1 I.hr (by decide) (by rw[O,z])) (fun S ar a O z=>xj (aA.2 S ar) I.hr (by decide) (by rw[O,z]))
  .have cm:((d.n:Int)==1)=false:=by rw[a1.o];simp;omega
   have d5:a<6:=by
    by_cases F:a<6
    .exact F
    .exfalso;apply M;rw[<-Z];unfold nj;rw[sJ a F];rfl
   have b6:e≠[]:=by
    intro F;apply M;rw[<-Z,F];rfl
   have ah:Hd (pz (x++[(d,g)])++Eq (7 - (a+1)) (a+1) (bq a 0 (nj a e))=Rj J):=by
    have F:=aO.o;rw[show 7 - a=(7 - (a+1))+1 by omega,Eq,if_neg (by rw[Z];exact M)]at F;unfold Hd pz at*;rw[rN,ZM,dN,a9,NN,List.singleton_append];exact F
   have ct:∀S∈nj a e,S≠[]:=fQ a e [] (SM b6);have bo:=RQ (level:=a) bl;have cu:∀S∈nj a e,S.length<=200:=fun S ar=>by have:=Wk a e [] S ar;simp at this;omega
   have cp:(nj a e).length<=200:=by have:=Kx a e [] b6;unfold nj;omega
   go_wp2_with (at_builtin;refine BX (by rfl) (.tmp 15) (.tmp 17) (by rfl) (b.heap.size+2) (.slice h.a h.n h.cap) x (by rfl) T.o ⟨Q.heap.size,0,none⟩ (d,g) (by rfl) aS.o aP.o b0.o ?_;intro B E C y a6 N;have V:aj y b.heap.size 146 [.slice none 0 0]:=A.hr.of_block (N.block _ A.hr.lt (fun z=>xj T.o A.hr (by decide) z));have X:aj y (b.heap.size+1) 146 [h.val]:=A.ht.of_block (N.block _ A.ht.lt (fun z=>xj T.o A.ht (by decide) z));have bI:y.cell? ⟨b.heap.size,0,none⟩=some (.slice none 0 0):=V.cell 0 (by simp);have bO:y.cell? ⟨b.heap.size+1,0,none⟩=some (.slice h.a h.n h.cap):=X.cell 0 (by simp);have bP:y.frozen? ⟨b.heap.size,0,none⟩=false:=V.frozen 0;have bR:y.frozen? ⟨b.heap.size+1,0,none⟩=false:=X.frozen 0);have I:ny b (y.setCell ⟨b.heap.size+1,0,none⟩ (.slice B E C)) ⟨B,E,C⟩ (x++[(d,g)]):=ny.push (lv':=⟨B,E,C⟩) (q:=(d,g)) A av a6 N;have bp:px (y.setCell ⟨b.heap.size+1,0,none⟩ (.slice B E C)) b.heap.size a (d,g):=by
    have br:px (y.setCell ⟨b.heap.size+1,0,none⟩ (.slice B E C)) b.heap.size x.length (d,g):=by
     have:=I.hl x.length (by simp);simpa using this
    rw[a0.o]at br;exact br
   clear bI bO bP bR V X b1 ce A av a6 N;generalize y.setCell ⟨b.heap.size+1,0,none⟩ (.slice B E C)=L at*;have ac:=(jj.ofOwn bp.1).1
   go_loopw [0,6] (fun cE Y bS=>∃(c:Nat) (v:dj),c<=g.length/\Y=.int .i64 c/\cE=.slice v.a v.n v.cap/\jz bS L.heap.size (.slice v.a v.n v.cap) (bq a 0 ((nj a e).take c))/\Below L.heap.size L bS) (fun _ Y _=>g.length - (intOf Y).toNat)
   case atStart=>exact⟨0,⟨none,0,0⟩,by omega,by simp,rfl,by rw[List.take_zero];exact iN _ _ _ _,VM _ _⟩
   case round=>
    obtain⟨c,v,d3,rfl,rfl,a7,U⟩:=hrel;by_cases a5:c<g.length
    .have ci:(c:Int)<d.n:=by rw[a1.o];omega
     have d4:(0:Int)<=(c:Int):=abj _;obtain⟨⟨⟨ag,i,H⟩,f⟩,ab⟩:∃aC,aC=g[c]:=⟨_,rfl⟩;have cv:((⟨ag,i,H⟩:dj),f)∈g:=by rw[ab];exact bN a5
     have a8:(nj a e)[c]? =some f:=by
      rw[<-a9,zN,UM a5,<-ab];rfl
     have au:f∈nj a e:=mN a8;have be:=ct _ au;have bu:=bo _ au;have cA:=cu _ au;have da:1<=f.length:=Faj.2 be;have c5:Hd (bq a 0 ((nj a e).take (c+1))=bq a 0 ((nj a e).take c)++[⟨cz f,Aj (Gj a f),c⟩]):=by
      unfold Hd;have ba:c<(nj a e).length:=by omega
      rw[RN ba,AX];have:(nj a e)[c]=f:=by rw[UM ba]at a8;exact lN a8
      rw[this,aN,sN,LN (by omega)]
     have cr:eQ wr b.heap.size ((⟨ag,i,H⟩:dj),f):=lj (bp.2 _ cv) U;obtain⟨ad,bs⟩:=jj.ofOwn (s:=⟨ag,i,H⟩) cr;have ad:Aq wr ag f:=ad;have a2:Hd (i=f.length):=bs;obtain⟨D,G,rfl,b8,b9,_,_⟩:=Aq.cells ad (f.length - 1) (by omega);have ac:jj L d.a (Fk a g):=ac;have b2:(Fk a g)[c*2]? =some (.int .i64 a):=(tw (QQ a) 2 g (fun _ _=>rfl) c a5 0 (by omega)).trans rfl;have b3:(Fk a g)[c*2+1]? =some (.slice (some ⟨D,G,none⟩) i H):=(tw (QQ a) 2 g (fun _ _=>rfl) c a5 1 (by omega)).trans (by rw[<-ab];rfl);obtain⟨ae,af,ao,bk,bf⟩:=jj.at ac b2;obtain⟨dg,dl,bi,_,bg⟩:=jj.at ac b3;rw[ao]at bi;cases bi;have cS:wr.cell? ⟨ae,af+c*2,none⟩=some (.int .i64 a):=(U.cell (p:=⟨ae,af+c*2,none⟩) bk).trans bf;have cT:wr.cell? ⟨ae,af+c*2+1,none⟩=some (.slice (some ⟨D,G,none⟩) i H):=(U.cell (p:=⟨ae,af+c*2+1,none⟩) bk).trans bg;obtain⟨df,di,dh⟩:=d;simp only at ao;subst ao;clear bf bg a8 ab b2 b3 bs;have bC:Aq (wr.alloc (.cells #[.int .i64 a,.slice (some ⟨D,G,none⟩) i H] 80)) (some ⟨D,G,none⟩) f:=jj.below_all ad tO;have aI:Hd (Calls _ _ _ _ _):=WZ a (some ⟨D,G,none⟩) i H f _ a2.o cA (by omega) bu bC;obtain⟨a3,a4⟩:∃a3,a3=Aj (Gj a f):=⟨_,rfl⟩;have b7:a3.length=8:=by rw[a4];rfl
     obtain⟨j,l,m,n,o,r,t,u,rfl⟩:=uj a3 b7;have c9:Hd (By (Gj a f)=.agg (cO j l m n o r t u)):=by
      unfold Hd;rw[kx,<-a4];rfl
     have c1:Hd ([j,l,m,n,o,r,t,u]=Aj (Gj a f)):=a4;have c0:Hd ((Gj a f).length<=maxLen):=by
      have:=ox a f.length f bu;unfold Hd maxLen;unfold Jq at this;unfold Gj;omega
     clear a4 b7 bC;go_wp2_with fail;refine aI.o.mono ?_;rintro z aD ⟨ca,bE,cc,rfl,bh,al⟩;obtain⟨bA,bc,_⟩:=bh.sl;have c3:Hd (bE=(Gj a f).length):=bc;clear bc;go_wp2_with fail;refine(tz ca bE cc (Gj a f) aD c3.o c0.o bA).mono ?_;rintro z w ⟨rfl,am⟩;rw[c9.o];have cf:Below wr.heap.size wr (wr.alloc (.cells #[.int .i64 a,.slice (some ⟨D,G,none⟩) i H] 80)):=tO;have b4:Below wr.heap.size wr aD:=cf.trans (al.mono (by simp));have ai:Below wr.heap.size wr w:=b4.trans (am.mono b4.size);have ak:aj w wr.heap.size 80 [.int .i64 a,.slice (some ⟨D,G,none⟩) i H]:=by
      have M:aj aD wr.heap.size 80 [.int .i64 a,.slice (some ⟨D,G,none⟩) i H]:=(aj.new wr 80 [.int .i64 a,.slice (some ⟨D,G,none⟩) i H]).below (by simp) al;exact M.below M.lt am
     have dm:w.cell? ⟨wr.heap.size,1,none⟩=some (.slice (some ⟨D,G,none⟩) i H):=ak.cell 1 (by simp);have cD:wr.heap.size<w.heap.size:=ak.lt;have d2:D<w.heap.size:=Nat.lt_trans b8 cD;have de:w.cell? ⟨D,G+(i - 1)*3,none⟩=some (.string ⟨(cz f).toArray⟩):=by
      rw[a2.o,WV f be];exact(ai.cell (p:=⟨D,G+(f.length - 1)*3,none⟩) b8).trans b9
     have d8:(1:Int)<=i:=by rw[a2.o];omega
     have d9:(i:Int)<=200:=by rw[a2.o];omega
     have c6:Hd (jz w L.heap.size (.slice v.a v.n v.cap) (bq a 0 ((nj a e).take c))):=lj a7 (ai);have dd:IntKind.i64.wrap ((i:Int) - 1)=((i - 1:Nat):Int):=by simp only[qaj];omega
     have dc:((i - 1:Nat):Int)<i:=by omega
     have b5:aj (w.alloc (.cells (cO j l m n o r t u) 36)).drew w.heap.size 36 ([j,l,m,n,o,r,t,u].map fj):=aj.new w 36 ([j,l,m,n,o,r,t,u].map fj);have d1:=wj (P:=Tryz.prog) (w.alloc (.cells (cO j l m n o r t u) 36)).drew 38 9 5 (some ⟨w.heap.size,0,none⟩) 8 8 [j,l,m,n,o,r,t,u] Tryz.underlying38 Tryz.underlying5 Tryz.underlying9 rfl (jq.of_row b5) (fun F=>by cases F);have aR:Hd (jz ((w.alloc (.cells (cO j l m n o r t u) 36)).drew.alloc (.cells #[.string ⟨(cz f).toArray⟩,.string ⟨[j,l,m,n,o,r,t,u].toArray⟩,.int .i64 c] 84)) L.heap.size (.slice v.a v.n v.cap) (bq a 0 ((nj a e).take c))):=(c6.o.alloc _).drew.alloc _;have c7:Hd (Aq ((w.alloc (.cells (cO j l m n o r t u) 36)).drew.alloc (.cells #[.string ⟨(cz f).toArray⟩,.string ⟨[j,l,m,n,o,r,t,u].toArray⟩,.int .i64 c] 84)) (some ⟨w.heap.size+1,0,none⟩) [⟨cz f,[j,l,m,n,o,r,t,u],c⟩]):=by
      have:=jj.alloc_new (w.alloc (.cells (cO j l m n o r t u) 36)).drew (nx [⟨cz f,[j,l,m,n,o,r,t,u],c⟩]) 84;rw[daj,YM]at this;exact this
     have c2:Hd ((bq a 0 ((nj a e).take c)).length+[(⟨cz f,[j,l,m,n,o,r,t,u],c⟩:ej)].length<=1000000):=by
      unfold Hd;rw[Xk,aN];simp;omega
     have cC:=U.size;have aT:Hd (L.heap.size<=((w.alloc (.cells (cO j l m n o r t u) 36)).drew.alloc (.cells #[.string ⟨(cz f).toArray⟩,.string ⟨[j,l,m,n,o,r,t,u].toArray⟩,.int .i64 c] 84)).heap.size):=by unfold Hd;simp;omega
     have bT:Hd (BB L ((w.alloc (.cells (cO j l m n o r t u) 36)).drew.alloc (.cells #[.string ⟨(cz f).toArray⟩,.string ⟨[j,l,m,n,o,r,t,u].toArray⟩,.int .i64 c] 84))):=(((U.trans (ai.mono cC)).alloc (by omega) _).drew.alloc (by simp;omega) _);clear al am bh bA ak cS cT aI b9 b5;go_wp2
     go_region_law
      ((refine OQ (by rfl) (.tmp 37) (.tmp 51) (by rfl) L.heap.size (.slice v.a v.n v.cap) (bq a 0 ((nj a e).take c)) (by rfl) aR.o ⟨w.heap.size+1,0,none⟩ 1 1 [⟨cz f,[j,l,m,n,o,r,t,u],c⟩] (by rfl) rfl c7.o c2.o aT.o ?_;intro cb cP cd dn cn ch d0))
     all_goals
      go_wp2;refine⟨⟨c+1,⟨cb,cP,cd⟩,by omega,by go_num,rfl,?_,bT.o.trans (ch.below aT.o (fun aC aa=>(aR.o.lt aC aa).1))⟩,by simp[intOf];omega⟩;rw[c5.o,<-c1.o];exact cn
    .have ci:¬(c:Int)<d.n:=by rw[a1.o];omega
     have c8:Hd ((nj a e).take c=nj a e):=aaj (by omega);go_wp2;rw[c8.o]at a7;have cB:=I.next U;refine⟨⟨a+1,v,bq a 0 (nj a e),⟨B,E,C⟩,x++[(d,g)],by omega,by go_num,rfl,(jj.ofOwn (s:=v) a7).1,?_,by rw[Xk];exact cp,YZ a 0 _ bo,cB,by rw[XM,a0.o];rfl,ah⟩,by simp[intOf];omega⟩;exact(jj.ofOwn (s:=v) a7).2
end Go.Proofs.YtekegfbjbainhaaGreat
