import Derived.Test.YtekegfbjbainhaaGreatKJoin37
import Derived.Deep.RegionHeld3
import Derived.Deep.RegionHeldLaw
set_option maxRecDepth 100000
set_option maxHeartbeats 4000000
set_option linter.unusedVariables false
set_option linter.unusedSimpArgs false
namespace Go.Proofs.YtekegfbjbainhaaGreat
open Go.RowKit
attribute [local go_sem↓] Go.wp_at_zero Go.wp_at_succ
theorem yL(a:List (List UInt8))(q s e:Nat)(o:Nat)(A:Bool)(d:List (List UInt8))(b:World)(X:2<=a.length)(a5:a.length<=40)(a8:a.length<=e)(a6:e<=9223372036854775807)(M:tq b (some ⟨q,s,none⟩) a)(ag:o<=gj a.length)(Y:d.length<=100)
  (H:∀c,BB b c->CP 100 #[.int .i64 o,.slice (some ⟨q,s,none⟩) (gj a.length) e,.bool A] c (zj c d)):
  CP 100 #[.int .i64 o,.slice (some ⟨q,s,none⟩) a.length e,.bool A] b (zj b (d++[Uj 42 (a.drop (gj a.length))])):=by
 have a9:=Rq a.length X;obtain⟨g,h,i,j,k,l,m,n,z⟩:=uj (Uj 42 (a.drop (gj a.length))) (Wj 41 _);have S:Hd (∀b:World,CP 122 #[.int .i64 (a.length:Int)] b fun x B=>x=.returned (.int .i64 (gj a.length:Int))/\B=b):=fun b=>My _ _ (by omega);have V:Hd (∀c,BB b c->CP 87 #[.slice (some ⟨q,s+gj a.length*8,none⟩) (a.length - gj a.length) (e - gj a.length)] c fun x B=>x=.returned (dV [g,h,i,j,k,l,m,n])/\Below c.heap.size c B):=fun c Z=>by
  rw[<-z];have G:=Kk 42 (a.drop (gj a.length)) (some ⟨q,s+gj a.length*8,none⟩) (e - gj a.length) c (by simp;omega) (by simp;omega) (by omega) ((M.below Z).drop _ (by omega));rw[oN]at G;exact G
 rw[z];have T:Hd (∀c,BB b c->CP 100 #[.int .i64 o,.slice (some ⟨q,s,none⟩) (gj a.length) e,.bool A] c (zj c d)):=H;have W:Hd (dV [g,h,i,j,k,l,m,n]=.agg (cO g h i j k l m n)):=rfl;have C:Hd (d.length<=100):=Y;generalize gj a.length=f at*;clear H z M;generalize a.length=p at*;have an:(p:Int)<=40:=by omega
 have am:(2:Int)<=p:=by omega
 have ab:(1:Int)<=f:=by omega
 have ae:(f:Int)<p:=by omega
 have a7:(e:Int)<=9223372036854775807:=by omega
 have ao:(p:Int)<=e:=by omega
 have ac:¬e=f:=by omega
 have aa:(0:Int)<=f:=by omega
 have ad:(f:Int)<=e:=by omega
 have af:(f:Int)<=p:=by omega
 have al:(0:Int)<=p:=by omega
 have ap:IntKind.i64.wrap (f:Int)=(f:Int):=Go.IntWalk.i64_in _ ⟨by omega,by omega⟩;have ak:((o:Int)==(p:Int))=false:=by rw[tN];simp only[ne_eq,beq_iff_eq];omega
 have ai:(o:Int)<=40:=by omega
 have ah:(o:Int)<=f:=by omega
 go_enter Tryz.func100,Tryz.ntmps100;go_wp2_with fail;refine(S.o _).mono ?_;rintro P a3 ⟨rfl,N⟩;obtain rfl:b=a3:=N.symm;clear N;go_wp2
 go_region_held3 (fun _=>True) (trivial)
  ((first
   |(go_at_call 100;refine(T.o _ (by repeat' (first|(with_reducible exact VM _ _)|(with_reducible refine AN ?_)))).mono ?_;rintro P a4 L;unfold zj at L;obtain⟨t,rfl,J,r⟩:=L;have w:Hd (BB b a4):=⟨r.os,r.tape,r.output,r.size,r.block⟩)
   |(go_at_call 87;refine(V.o _ (by exact w.o)).mono ?_;rintro P v ⟨rfl,y⟩;rw[W.o];have u:Hd (BB b v):=w.o.trans (y.mono w.o.size);have D:Hd (v.ownsRow b.heap.size 36 8 (.slice t.a t.n t.cap) d.length (qj d)):=lj J y)
   |(refine cq (by rfl) (.tmp 33) (.tmp 38) 41 (by rfl) b.heap.size 36 _ 8 8 Tryz.underlying41 Tryz.infoDigP rfl (by decide) (.slice t.a t.n t.cap) d.length (qj d) (by rfl) (D.o.alloc (.cells (cO g h i j k l m n) 36)) ⟨v.heap.size,0,none⟩ 1 1 ([g,h,i,j,k,l,m,n].map fj) (by rfl) rfl (jj.alloc_new v ([g,h,i,j,k,l,m,n].map fj) 36) (gx _) (by have:=C.o;unfold maxLen;omega) (by have:=C.o;omega) (by have:=u.o.size;simp;omega) ?_;intro E O F Q K I a0)
   |fail))
 all_goals
  have U:Hd (Q.ownsRow b.heap.size 36 8 (.slice E O F) (d++[[g,h,i,j,k,l,m,n]]).length (qj (d++[[g,h,i,j,k,l,m,n]]))):=by
   rw[Ix,XM];exact K
  have R:Hd (BB b Q):=(u.o.alloc u.o.size _).trans (I.below (by have:=u.o.size;simp;omega) (fun a2 a1=>(D.o.lt a2 a1).1));clear K I a0 J r y;go_wp2;go_returns;exact⟨⟨E,O,F⟩,rfl,U.o,R.o⟩
theorem zL(a:List (List UInt8))(q s g:Nat)(e:Nat)(a4:Bool)(f:List (List UInt8))(b:World)(W:2<=a.length)(a8:a.length<=40)(ab:a.length<=g)(a9:g<=9223372036854775807)(L:tq b (some ⟨q,s,none⟩) a)(ak:gj a.length<e)(al:e<a.length)(X:f.length<=100)
  (G:∀c,BB b c->CP 100 #[.int .i64 ((e - gj a.length:Nat):Int),.slice (some ⟨q,s+gj a.length*8,none⟩) (a.length - gj a.length) (g - gj a.length),.bool false] c (zj c f)):
  CP 100 #[.int .i64 e,.slice (some ⟨q,s,none⟩) a.length g,.bool a4] b (zj b (f++[Uj 42 (a.take (gj a.length))])):=by
 have ac:=Rq a.length W;obtain⟨h,i,j,k,l,m,n,o,z⟩:=uj (Uj 42 (a.take (gj a.length))) (Wj 41 _);have R:Hd (∀b:World,CP 122 #[.int .i64 (a.length:Int)] b fun x A=>x=.returned (.int .i64 (gj a.length:Int))/\A=b):=fun b=>My _ _ (by omega);have U:Hd (∀c,BB b c->CP 87 #[.slice (some ⟨q,s,none⟩) (gj a.length) g] c fun x A=>x=.returned (dV [h,i,j,k,l,m,n,o])/\Below c.heap.size c A):=fun c Y=>by
  rw[<-z];have F:=Kk 42 (a.take (gj a.length)) (some ⟨q,s,none⟩) g c (by simp;omega) (by simp;omega) (by omega) ((L.below Y).take _ (by omega));rw[aN,LN (by omega)]at F;exact F
 rw[z];have S:Hd (∀c,BB b c->CP 100 #[.int .i64 ((e - gj a.length:Nat):Int),.slice (some ⟨q,s+gj a.length*8,none⟩) (a.length - gj a.length) (g - gj a.length),.bool false] c (zj c f)):=G;have V:Hd (dV [h,i,j,k,l,m,n,o]=.agg (cO h i j k l m n o)):=rfl;have B:Hd (f.length<=100):=X;generalize gj a.length=d at*;clear G z L;generalize a.length=p at*;have au:(p:Int)<=40:=by omega
 have ar:(2:Int)<=p:=by omega
 have ae:(1:Int)<=d:=by omega
 have ah:(d:Int)<p:=by omega
 have aa:(g:Int)<=9223372036854775807:=by omega
 have av:(p:Int)<=g:=by omega
 have af:¬g=d:=by omega
 have ad:(0:Int)<=d:=by omega
 have ag:(d:Int)<=g:=by omega
 have ai:(d:Int)<=p:=by omega
 have ap:(0:Int)<=p:=by omega
 have aA:IntKind.i64.wrap (d:Int)=(d:Int):=Go.IntWalk.i64_in _ ⟨by omega,by omega⟩;have ao:((e:Int)==(p:Int))=false:=by rw[tN];simp only[ne_eq,beq_iff_eq];omega
 have an:(e:Int)<=40:=by omega
 have am:¬(e:Int)<=d:=by omega
 have a0:(e:Int) - d=((e - d:Nat):Int):=by omega
 generalize a2:(e - d:Nat)=mk at*;have a3:IntKind.i64.wrap (mk:Int)=(mk:Int):=Go.IntWalk.i64_in _ ⟨by omega,by omega⟩;have ax:IntKind.i64.wrap ((e:Int) - (d:Int))=(mk:Int):=by rw[a0];exact a3
 clear a2;go_enter Tryz.func100,Tryz.ntmps100;go_wp2_with fail;refine(R.o _).mono ?_;rintro O a6 ⟨rfl,M⟩;obtain rfl:b=a6:=M.symm;clear M;go_wp2
 go_region_held3 (fun _=>True) (trivial)
  ((first
   |(go_at_call 100;refine(S.o _ (by repeat' (first|(with_reducible exact VM _ _)|(with_reducible refine AN ?_)))).mono ?_;rintro O a7 K;unfold zj at K;obtain⟨t,rfl,I,r⟩:=K;have w:Hd (BB b a7):=⟨r.os,r.tape,r.output,r.size,r.block⟩)
   |(go_at_call 87;refine(U.o _ (by exact w.o)).mono ?_;rintro O v ⟨rfl,y⟩;rw[V.o];have u:Hd (BB b v):=w.o.trans (y.mono w.o.size);have C:Hd (v.ownsRow b.heap.size 36 8 (.slice t.a t.n t.cap) f.length (qj f)):=lj I y)
   |(refine cq (by rfl) (.tmp 46) (.tmp 51) 41 (by rfl) b.heap.size 36 _ 8 8 Tryz.underlying41 Tryz.infoDigP rfl (by decide) (.slice t.a t.n t.cap) f.length (qj f) (by rfl) (C.o.alloc (.cells (cO h i j k l m n o) 36)) ⟨v.heap.size,0,none⟩ 1 1 ([h,i,j,k,l,m,n,o].map fj) (by rfl) rfl (jj.alloc_new v ([h,i,j,k,l,m,n,o].map fj) 36) (gx _) (by have:=B.o;unfold maxLen;omega) (by have:=B.o;omega) (by have:=u.o.size;simp;omega) ?_;intro D N E P J H Z)
   |fail))
 all_goals
  have T:Hd (P.ownsRow b.heap.size 36 8 (.slice D N E) (f++[[h,i,j,k,l,m,n,o]]).length (qj (f++[[h,i,j,k,l,m,n,o]]))):=by
   rw[Ix,XM];exact J
  have Q:Hd (BB b P):=(u.o.alloc u.o.size _).trans (H.below (by have:=u.o.size;simp;omega) (fun a5 a1=>(C.o.lt a5 a1).1));clear J H Z I r y;go_wp2;go_returns;exact⟨⟨D,N,E⟩,rfl,T.o,Q.o⟩
theorem zM(a:List (List UInt8))(q s e:Nat)(o:Nat)(A:Bool)(d:List (List UInt8))(b:World)(X:2<=a.length)(a5:a.length<=40)(a8:a.length<=e)(a6:e<=9223372036854775807)(M:tq b (some ⟨q,s,none⟩) a)(ag:o<=gj a.length)(Y:d.length<=100)
  (H:∀c,BB b c->CP 129 #[.slice (some ⟨q,s,none⟩) (gj a.length) e,.int .i64 o,.bool A] c (zj c d)):
  CP 129 #[.slice (some ⟨q,s,none⟩) a.length e,.int .i64 o,.bool A] b (zj b (d++[Uj 42 (a.drop (gj a.length))])):=by
 have a9:=Rq a.length X;obtain⟨g,h,i,j,k,l,m,n,z⟩:=uj (Uj 42 (a.drop (gj a.length))) (Wj 41 _);have S:Hd (∀b:World,CP 128 #[.int .i64 (a.length:Int)] b fun x B=>x=.returned (.int .i64 (gj a.length:Int))/\B=b):=fun b=>Py _ _ (by omega) (by omega);have V:Hd (∀c,BB b c->CP 119 #[.slice (some ⟨q,s+gj a.length*8,none⟩) (a.length - gj a.length) (e - gj a.length)] c fun x B=>x=.returned (dV [g,h,i,j,k,l,m,n])/\Below c.heap.size c B):=fun c Z=>by
  rw[<-z];have G:=dy 42 (a.drop (gj a.length)) (some ⟨q,s+gj a.length*8,none⟩) (e - gj a.length) c (by simp;omega) (by simp;omega) (by simp;omega) (by omega) ((M.below Z).drop _ (by omega));rw[oN]at G;exact G
 rw[z];have T:Hd (∀c,BB b c->CP 129 #[.slice (some ⟨q,s,none⟩) (gj a.length) e,.int .i64 o,.bool A] c (zj c d)):=H;have W:Hd (dV [g,h,i,j,k,l,m,n]=.agg (cO g h i j k l m n)):=rfl;have C:Hd (d.length<=100):=Y;generalize gj a.length=f at*;clear H z M;generalize a.length=p at*;have an:(p:Int)<=40:=by omega
 have am:(2:Int)<=p:=by omega
 have ab:(1:Int)<=f:=by omega
 have ae:(f:Int)<p:=by omega
 have a7:(e:Int)<=9223372036854775807:=by omega
 have ao:(p:Int)<=e:=by omega
 have ac:¬e=f:=by omega
 have aa:(0:Int)<=f:=by omega
 have ad:(f:Int)<=e:=by omega
 have af:(f:Int)<=p:=by omega
 have al:(0:Int)<=p:=by omega
 have ap:IntKind.i64.wrap (f:Int)=(f:Int):=Go.IntWalk.i64_in _ ⟨by omega,by omega⟩;have ak:((o:Int)==(p:Int))=false:=by rw[tN];simp only[ne_eq,beq_iff_eq];omega
 have ai:(o:Int)<=40:=by omega
 have ah:(o:Int)<=f:=by omega
 go_enter Tryz.func129,Tryz.ntmps129;go_wp2_with fail;refine(S.o _).mono ?_;rintro P a3 ⟨rfl,N⟩;obtain rfl:b=a3:=N.symm;clear N;go_wp2
 go_region_held3 (fun _=>True) (trivial)
  ((first
   |(go_at_call 129;refine(T.o _ (by repeat' (first|(with_reducible exact VM _ _)|(with_reducible refine AN ?_)))).mono ?_;rintro P a4 L;unfold zj at L;obtain⟨t,rfl,J,r⟩:=L;have w:Hd (BB b a4):=⟨r.os,r.tape,r.output,r.size,r.block⟩)
   |(go_at_call 119;refine(V.o _ (by exact w.o)).mono ?_;rintro P v ⟨rfl,y⟩;rw[W.o];have u:Hd (BB b v):=w.o.trans (y.mono w.o.size);have D:Hd (v.ownsRow b.heap.size 36 8 (.slice t.a t.n t.cap) d.length (qj d)):=lj J y)
   |(refine cq (by rfl) (.tmp 27) (.tmp 32) 41 (by rfl) b.heap.size 36 _ 8 8 Tryz.underlying41 Tryz.infoDigP rfl (by decide) (.slice t.a t.n t.cap) d.length (qj d) (by rfl) (D.o.alloc (.cells (cO g h i j k l m n) 36)) ⟨v.heap.size,0,none⟩ 1 1 ([g,h,i,j,k,l,m,n].map fj) (by rfl) rfl (jj.alloc_new v ([g,h,i,j,k,l,m,n].map fj) 36) (gx _) (by have:=C.o;unfold maxLen;omega) (by have:=C.o;omega) (by have:=u.o.size;simp;omega) ?_;intro E O F Q K I a0)
   |fail))
 all_goals
  have U:Hd (Q.ownsRow b.heap.size 36 8 (.slice E O F) (d++[[g,h,i,j,k,l,m,n]]).length (qj (d++[[g,h,i,j,k,l,m,n]]))):=by
   rw[Ix,XM];exact K
  have R:Hd (BB b Q):=(u.o.alloc u.o.size _).trans (I.below (by have:=u.o.size;simp;omega) (fun a2 a1=>(D.o.lt a2 a1).1));clear K I a0 J r y;go_wp2;go_returns;exact⟨⟨E,O,F⟩,rfl,U.o,R.o⟩
theorem AM(a:List (List UInt8))(q s g:Nat)(e:Nat)(a4:Bool)(f:List (List UInt8))(b:World)(W:2<=a.length)(a8:a.length<=40)(ab:a.length<=g)(a9:g<=9223372036854775807)(L:tq b (some ⟨q,s,none⟩) a)(ak:gj a.length<e)(al:e<a.length)(X:f.length<=100)
  (G:∀c,BB b c->CP 129 #[.slice (some ⟨q,s+gj a.length*8,none⟩) (a.length - gj a.length) (g - gj a.length),.int .i64 ((e - gj a.length:Nat):Int),.bool false] c (zj c f)):
  CP 129 #[.slice (some ⟨q,s,none⟩) a.length g,.int .i64 e,.bool a4] b (zj b (f++[Uj 42 (a.take (gj a.length))])):=by
 have ac:=Rq a.length W;obtain⟨h,i,j,k,l,m,n,o,z⟩:=uj (Uj 42 (a.take (gj a.length))) (Wj 41 _);have R:Hd (∀b:World,CP 128 #[.int .i64 (a.length:Int)] b fun x A=>x=.returned (.int .i64 (gj a.length:Int))/\A=b):=fun b=>Py _ _ (by omega) (by omega);have U:Hd (∀c,BB b c->CP 119 #[.slice (some ⟨q,s,none⟩) (gj a.length) g] c fun x A=>x=.returned (dV [h,i,j,k,l,m,n,o])/\Below c.heap.size c A):=fun c Y=>by
  rw[<-z];have F:=dy 42 (a.take (gj a.length)) (some ⟨q,s,none⟩) g c (by simp;omega) (by simp;omega) (by simp;omega) (by omega) ((L.below Y).take _ (by omega));rw[aN,LN (by omega)]at F;exact F
 rw[z];have S:Hd (∀c,BB b c->CP 129 #[.slice (some ⟨q,s+gj a.length*8,none⟩) (a.length - gj a.length) (g - gj a.length),.int .i64 ((e - gj a.length:Nat):Int),.bool false] c (zj c f)):=G;have V:Hd (dV [h,i,j,k,l,m,n,o]=.agg (cO h i j k l m n o)):=rfl;have B:Hd (f.length<=100):=X;generalize gj a.length=d at*;clear G z L;generalize a.length=p at*;have au:(p:Int)<=40:=by omega
 have ar:(2:Int)<=p:=by omega
 have ae:(1:Int)<=d:=by omega
 have ah:(d:Int)<p:=by omega
 have aa:(g:Int)<=9223372036854775807:=by omega
 have av:(p:Int)<=g:=by omega
 have af:¬g=d:=by omega
 have ad:(0:Int)<=d:=by omega
 have ag:(d:Int)<=g:=by omega
 have ai:(d:Int)<=p:=by omega
 have ap:(0:Int)<=p:=by omega
 have aA:IntKind.i64.wrap (d:Int)=(d:Int):=Go.IntWalk.i64_in _ ⟨by omega,by omega⟩;have ao:((e:Int)==(p:Int))=false:=by rw[tN];simp only[ne_eq,beq_iff_eq];omega
 have an:(e:Int)<=40:=by omega
 have am:¬(e:Int)<=d:=by omega
 have a0:(e:Int) - d=((e - d:Nat):Int):=by omega
 generalize a2:(e - d:Nat)=mk at*;have a3:IntKind.i64.wrap (mk:Int)=(mk:Int):=Go.IntWalk.i64_in _ ⟨by omega,by omega⟩;have ax:IntKind.i64.wrap ((e:Int) - (d:Int))=(mk:Int):=by rw[a0];exact a3
 clear a2;go_enter Tryz.func129,Tryz.ntmps129;go_wp2_with fail;refine(R.o _).mono ?_;rintro O a6 ⟨rfl,M⟩;obtain rfl:b=a6:=M.symm;clear M;go_wp2
 go_region_held3 (fun _=>True) (trivial)
  ((first
   |(go_at_call 129;refine(S.o _ (by repeat' (first|(with_reducible exact VM _ _)|(with_reducible refine AN ?_)))).mono ?_;rintro O a7 K;unfold zj at K;obtain⟨t,rfl,I,r⟩:=K;have w:Hd (BB b a7):=⟨r.os,r.tape,r.output,r.size,r.block⟩)
   |(go_at_call 119;refine(U.o _ (by exact w.o)).mono ?_;rintro O v ⟨rfl,y⟩;rw[V.o];have u:Hd (BB b v):=w.o.trans (y.mono w.o.size);have C:Hd (v.ownsRow b.heap.size 36 8 (.slice t.a t.n t.cap) f.length (qj f)):=lj I y)
   |(refine cq (by rfl) (.tmp 40) (.tmp 45) 41 (by rfl) b.heap.size 36 _ 8 8 Tryz.underlying41 Tryz.infoDigP rfl (by decide) (.slice t.a t.n t.cap) f.length (qj f) (by rfl) (C.o.alloc (.cells (cO h i j k l m n o) 36)) ⟨v.heap.size,0,none⟩ 1 1 ([h,i,j,k,l,m,n,o].map fj) (by rfl) rfl (jj.alloc_new v ([h,i,j,k,l,m,n,o].map fj) 36) (gx _) (by have:=B.o;unfold maxLen;omega) (by have:=B.o;omega) (by have:=u.o.size;simp;omega) ?_;intro D N E P J H Z)
   |fail))
 all_goals
  have T:Hd (P.ownsRow b.heap.size 36 8 (.slice D N E) (f++[[h,i,j,k,l,m,n,o]]).length (qj (f++[[h,i,j,k,l,m,n,o]]))):=by
   rw[Ix,XM];exact J
  have Q:Hd (BB b P):=(u.o.alloc u.o.size _).trans (H.below (by have:=u.o.size;simp;omega) (fun a5 a1=>(C.o.lt a5 a1).1));clear J H Z I r y;go_wp2;go_returns;exact⟨⟨D,N,E⟩,rfl,T.o,Q.o⟩
theorem zj.nil(a:World):zj a [] (.returned (.slice none 0 0)) a:=⟨⟨none,0,0⟩,rfl,iN _ _ _ _,VM _ _⟩
theorem tq.adr{h:World}{d:Option Addr}{a:List (List UInt8)}(e:tq h d a)(g:1<=a.length):∃b c,d=some ⟨b,c,none⟩:=by
 cases a with
 |nil=>simp at g
 |cons i a=>
  obtain⟨b,c,f,_⟩:=e.1 0 (by rw[mq _ e.2];simp);exact⟨b,c,f⟩
theorem tY(b:World)(c:Nat)(a:List UInt8)(f:a.length=8)(e:c<=b.heap.size):(b.alloc (.cells (a.map fj).toArray 36)).ownsRow c 36 8 (.slice (some ⟨b.heap.size,0,none⟩) 1 1) 1 (qj [a]):=by
 have d:qj [a]=a.map fj:=by simp[qj]
 rw[d];exact Ww b c 36 8 1 (a.map fj) e (by simp[f]) (by unfold maxLen;omega)
theorem AL(d:Int)(b:Option Addr)(c:Nat)(a:World):CP 97 #[.int .i64 d,.slice b 1 c] a (zj a []):=by
 go_enter Tryz.func97,Tryz.ntmps97;go_wp2;go_returns;exact zj.nil a
theorem uX:∀(d b:Nat) (a:List (List UInt8)) (f:Option Addr) (c:Nat) (e:World),a.length<d->d<=100->a.length<=40->a.length<=c->c<=9223372036854775807->tq e f a->b<a.length->
  CP 97 #[.int .i64 b,.slice f a.length c] e (zj e (Iy d b a))
 |0,b,a,f,c,e,o,_,_,_,_,_,_=>absurd o (wN _)
 |d+1,b,a,f,c,e,o,t,q,r,m,h,s=>by
  unfold Iy;by_cases p:a.length<=1
  .rw[if_pos p,show a.length=1 by omega];exact AL b f c e
  rw[if_neg p];have u:=Rq a.length (by omega);obtain⟨i,j,rfl⟩:=h.adr (by omega);by_cases n:b<gj a.length
  .rw[if_pos n];refine vM a i j c b _ e (by omega) q r m h n (WM (Ty d _ _) (by omega)) (fun k l=>?_);have g:=uX d b (a.take (gj a.length)) (some ⟨i,j,none⟩) c k (by rw[aN];omega) (by omega) (by rw[aN];omega) (by rw[aN];omega) m ((h.below l).take _ (by omega)) (by rw[aN];omega);rw[aN,LN (by omega)]at g;exact g
  .rw[if_neg n];refine wM a i j c b _ e (by omega) q r m h (by omega) s (WM (Ty d _ _) (by omega)) (fun k l=>?_);have g:=uX d (b - gj a.length) (a.drop (gj a.length)) (some ⟨i,j+gj a.length*8,none⟩) (c - gj a.length) k (by rw[oN];omega) (by omega) (by rw[oN];omega) (by rw[oN];omega) (by omega) ((h.below l).drop _ (by omega)) (by rw[oN];omega);rw[oN]at g;exact g
theorem BL(d:Int)(b:Option Addr)(c:Nat)(a:World):CP 95 #[.slice b 1 c,.int .i64 d] a (zj a []):=by
 go_enter Tryz.func95,Tryz.ntmps95;go_wp2;go_returns;exact zj.nil a
theorem vX:∀(d b:Nat) (a:List (List UInt8)) (f:Option Addr) (c:Nat) (e:World),a.length<d->d<=100->a.length<=40->a.length<=c->c<=9223372036854775807->tq e f a->b<a.length->
  CP 95 #[.slice f a.length c,.int .i64 b] e (zj e (Iy d b a))
 |0,b,a,f,c,e,o,_,_,_,_,_,_=>absurd o (wN _)
 |d+1,b,a,f,c,e,o,t,q,r,m,h,s=>by
  unfold Iy;by_cases p:a.length<=1
  .rw[if_pos p,show a.length=1 by omega];exact BL b f c e
  rw[if_neg p];have u:=Rq a.length (by omega);obtain⟨i,j,rfl⟩:=h.adr (by omega);by_cases n:b<gj a.length
  .rw[if_pos n];refine xM a i j c b _ e (by omega) q r m h n (WM (Ty d _ _) (by omega)) (fun k l=>?_);have g:=vX d b (a.take (gj a.length)) (some ⟨i,j,none⟩) c k (by rw[aN];omega) (by omega) (by rw[aN];omega) (by rw[aN];omega) m ((h.below l).take _ (by omega)) (by rw[aN];omega);rw[aN,LN (by omega)]at g;exact g
  .rw[if_neg n];refine yM a i j c b _ e (by omega) q r m h (by omega) s (WM (Ty d _ _) (by omega)) (fun k l=>?_);have g:=vX d (b - gj a.length) (a.drop (gj a.length)) (some ⟨i,j+gj a.length*8,none⟩) (c - gj a.length) k (by rw[oN];omega) (by omega) (by rw[oN];omega) (by rw[oN];omega) (by omega) ((h.below l).drop _ (by omega)) (by rw[oN];omega);rw[oN]at g;exact g
theorem oH(a:Nat)(c:Option Addr)(d:Nat)(b:World)(e:a<=40):CP 100 #[.int .i64 a,.slice c a d,.bool true] b (zj b []):=by
 have f:(a:Int)<=40:=by omega
 go_enter Tryz.func100,Tryz.ntmps100;go_wp2;go_returns;exact zj.nil b
theorem pH(a:List (List UInt8))(n:Option Addr)(l:Nat)(b:World)(w:a.length<=40)(v:a.length<=l)(u:l<=9223372036854775807)(q:tq b n a):CP 100 #[.int .i64 (a.length:Int),.slice n a.length l,.bool false] b (zj b [Uj 42 a]):=by
 have x:(a.length:Int)<=40:=by omega
 obtain⟨c,d,e,f,g,h,i,j,p⟩:=uj (Uj 42 a) (Wj 41 _);have o:Hd (Calls _ _ _ _ _):=Kk 42 a n l b (by omega) v u q;rw[p]at o⊢;have t:Hd (dV [c,d,e,f,g,h,i,j]=.agg (cO c d e f g h i j)):=rfl;clear q p;go_enter Tryz.func100,Tryz.ntmps100;go_wp2_with fail;refine o.o.mono ?_;rintro y k ⟨rfl,m⟩;rw[t.o];have s:Hd ((k.alloc (.cells (cO c d e f g h i j) 36)).ownsRow b.heap.size 36 8 (.slice (some ⟨k.heap.size,0,none⟩) 1 1) 1 (qj [[c,d,e,f,g,h,i,j]])):=tY k b.heap.size [c,d,e,f,g,h,i,j] rfl m.size;have r:Hd (BB b (k.alloc (.cells (cO c d e f g h i j) 36))):=m.alloc m.size _;clear m;go_wp2;go_returns;exact⟨⟨some ⟨k.heap.size,0,none⟩,1,1⟩,rfl,s.o,r.o⟩
theorem rZ:∀(e b:Nat) (a:List (List UInt8)) (f:Bool) (g:Option Addr) (c:Nat) (d:World),a.length<e->e<=100->a.length<=40->a.length<=c->c<=9223372036854775807->tq d g a->1<=b->b<=a.length->
  CP 100 #[.int .i64 b,.slice g a.length c,.bool f] d (zj d (yk e b a f))
 |0,b,a,f,g,c,d,s,_,_,_,_,_,_,_=>absurd s (wN _)
 |e+1,b,a,f,g,c,d,s,v,k,p,l,h,t,u=>by
  unfold yk;by_cases r:b=a.length
  .rw[if_pos r,r];cases f
   .exact pH a g c d k p l h
   .exact oH a.length g c d k
  rw[if_neg r];have w:=Rq a.length (by omega);obtain⟨j,m,rfl⟩:=h.adr (by omega);by_cases q:b<=gj a.length
  .rw[if_pos q];refine yL a j m c b f _ d (by omega) k p l h q (WM (Jk e _ _ _) (by omega)) (fun n o=>?_);have i:=rZ e b (a.take (gj a.length)) f (some ⟨j,m,none⟩) c n (by rw[aN];omega) (by omega) (by rw[aN];omega) (by rw[aN];omega) l ((h.below o).take _ (by omega)) t (by rw[aN];omega);rw[aN,LN (by omega)]at i;exact i
  .rw[if_neg q];refine zL a j m c b f _ d (by omega) k p l h (by omega) (by omega) (WM (Jk e _ _ _) (by omega)) (fun n o=>?_);have i:=rZ e (b - gj a.length) (a.drop (gj a.length)) false (some ⟨j,m+gj a.length*8,none⟩) (c - gj a.length) n (by rw[oN];omega) (by omega) (by rw[oN];omega) (by rw[oN];omega) (by omega) ((h.below o).drop _ (by omega)) (by omega) (by rw[oN];omega);rw[oN]at i;exact i
theorem CL(a:Nat)(c:Option Addr)(d:Nat)(b:World)(e:a<=40):CP 129 #[.slice c a d,.int .i64 a,.bool true] b (zj b []):=by
 have f:(a:Int)<=40:=by omega
 go_enter Tryz.func129,Tryz.ntmps129;go_wp2;go_returns;exact zj.nil b
theorem DL(a:List (List UInt8))(n:Option Addr)(l:Nat)(b:World)(w:a.length<=40)(v:a.length<=l)(u:l<=9223372036854775807)(q:tq b n a):CP 129 #[.slice n a.length l,.int .i64 (a.length:Int),.bool false] b (zj b [Uj 42 a]):=by
 have x:(a.length:Int)<=40:=by omega
 obtain⟨c,d,e,f,g,h,i,j,p⟩:=uj (Uj 42 a) (Wj 41 _);have o:Hd (Calls _ _ _ _ _):=dy 42 a n l b (by omega) (by omega) v u q;rw[p]at o⊢;have t:Hd (dV [c,d,e,f,g,h,i,j]=.agg (cO c d e f g h i j)):=rfl;clear q p;go_enter Tryz.func129,Tryz.ntmps129;go_wp2_with fail;refine o.o.mono ?_;rintro y k ⟨rfl,m⟩;rw[t.o];have s:Hd ((k.alloc (.cells (cO c d e f g h i j) 36)).ownsRow b.heap.size 36 8 (.slice (some ⟨k.heap.size,0,none⟩) 1 1) 1 (qj [[c,d,e,f,g,h,i,j]])):=tY k b.heap.size [c,d,e,f,g,h,i,j] rfl m.size;have r:Hd (BB b (k.alloc (.cells (cO c d e f g h i j) 36))):=m.alloc m.size _;clear m;go_wp2;go_returns;exact⟨⟨some ⟨k.heap.size,0,none⟩,1,1⟩,rfl,s.o,r.o⟩
theorem wX:∀(e b:Nat) (a:List (List UInt8)) (f:Bool) (g:Option Addr) (c:Nat) (d:World),a.length<e->e<=100->a.length<=40->a.length<=c->c<=9223372036854775807->tq d g a->1<=b->b<=a.length->
  CP 129 #[.slice g a.length c,.int .i64 b,.bool f] d (zj d (yk e b a f))
 |0,b,a,f,g,c,d,s,_,_,_,_,_,_,_=>absurd s (wN _)
 |e+1,b,a,f,g,c,d,s,v,k,p,l,h,t,u=>by
  unfold yk;by_cases r:b=a.length
  .rw[if_pos r,r];cases f
   .exact DL a g c d k p l h
   .exact CL a.length g c d k
  rw[if_neg r];have w:=Rq a.length (by omega);obtain⟨j,m,rfl⟩:=h.adr (by omega);by_cases q:b<=gj a.length
  .rw[if_pos q];refine zM a j m c b f _ d (by omega) k p l h q (WM (Jk e _ _ _) (by omega)) (fun n o=>?_);have i:=wX e b (a.take (gj a.length)) f (some ⟨j,m,none⟩) c n (by rw[aN];omega) (by omega) (by rw[aN];omega) (by rw[aN];omega) l ((h.below o).take _ (by omega)) t (by rw[aN];omega);rw[aN,LN (by omega)]at i;exact i
  .rw[if_neg q];refine AM a j m c b f _ d (by omega) k p l h (by omega) (by omega) (WM (Jk e _ _ _) (by omega)) (fun n o=>?_);have i:=wX e (b - gj a.length) (a.drop (gj a.length)) false (some ⟨j,m+gj a.length*8,none⟩) (c - gj a.length) n (by rw[oN];omega) (by omega) (by rw[oN];omega) (by rw[oN];omega) (by omega) ((h.below o).drop _ (by omega)) (by omega) (by rw[oN];omega);rw[oN]at i;exact i
end Go.Proofs.YtekegfbjbainhaaGreat
