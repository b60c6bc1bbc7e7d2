/- What votePlays_proved stands on, part 9 of 10. -/
import Derived.Test.YteecmjmglmpbpaaKP8
namespace Go.Proofs.Yteecmjmglmpbpaa
open Go.RowKit Abs
def z1ef(s:DS)(z g sz:Int):Int:=if g=sz then 0 else if z121 s z ⟨1,[],g⟩≠0 then z121 s z ⟨1,[],g⟩ else zd7 (z15d s z ⟨1,[],g⟩).p z
def z8c(s:DS)(z g sz:Int):DS:=if g=sz then s else if z121 s z ⟨1,[],g⟩≠0 then z15d s z ⟨1,[],g⟩ else z1fb (z15d s z ⟨1,[],g⟩) z
def z3b(f:Int)(l:List Ent)(a:Ent×Int):Ent×Int:=l.foldl (fun a e=>if e.c>a.1.c then (e,f) else a) a
def EntAt(H:AHeap)(v:AV)(l:List Ent):Prop:=(v=.nsl∧l=[])∨∃c,v=.sl c 0 l.length 3∧RowH H c z375 (z362 l).flatten∧c<H.next
def z370(lo lo':Nat→Prop):Prop:=∀b,lo' b→lo b
section
variable {lo:Nat→Prop}{n d D db xb B:Nat}{h h' H:AHeap}{s:DS}{v:AV}{l:List Ent}{x:BoxS}{Q:ARes→AHeap→Prop}
theorem Sli.ents{e:Nat}(k:Sli z375 3 e H v (z362 l)):EntAt H v l∧∀b∈z5d v,e≤b∧b<H.next:=by
 rcases k.2 with⟨h1,rfl⟩|⟨c,_,rfl,h3,h4,h5⟩
 ·cases l with
  |nil=>exact⟨.inl ⟨rfl,rfl⟩,fun _ h=>nomatch h⟩
  |cons a l=>cases h1
 ·exact⟨.inr ⟨c,by rw[List.length_map],h5,h4⟩,fun b hb=>by rw[List.mem_singleton.1 hb];exact⟨h3,h4⟩⟩
theorem EntAt.tch{S:List Nat}(k:EntAt H v l)(t:Tch S H h')(hS:∀b∈z5d v,b ∉ S):EntAt h' v l:=by
 rcases k with k|⟨c,rfl,h2,h3⟩
 ·exact .inl k
 ·exact .inr ⟨c,rfl,h2.tch t h3 (hS c (List.mem_singleton.2 rfl)),Nat.lt_of_lt_of_le h3 t.1⟩
theorem EntAt.len(k:EntAt H v l):z197 v=some (l.length:Int):=by
 rcases k with⟨rfl,rfl⟩|⟨c,rfl,_⟩<;>rfl
theorem EntAt.one(k:EntAt H v l):v.one=true:=by
 rcases k with⟨rfl,rfl⟩|⟨c,rfl,_⟩<;>rfl
theorem EntAt.at(k:EntAt H v l){i:Nat}(hi:i<l.length):∃p,z18d 3 v (i:Int)=some p∧z2b H 3 p=some (z3ca l[i]):=by
 rcases k with⟨_,rfl⟩|⟨c,rfl,h5,_⟩
 ·cases hi
 ·refine ⟨.ptr c (0 + i * 3), z25f hi, ?_⟩
  have hr:∀r∈z362 l,r.length=3:=fun r hr=>by
   obtain⟨e,_,rfl⟩:=List.mem_map.1 hr;rfl
  have hlen:=z224 (sz:=3) (z362 l) hr;rw[List.length_map] at hlen;have hp:=z229 (sz:=3) (z362 l) i (by rw[List.length_map];exact hi) hr;rw[List.getElem_map] at hp;have h3:=h5.part (o:=i*3) (n:=3) (by omega);rw[hp] at h3;rw[Nat.zero_add];exact h3
theorem mend_w{z g sz:Int}(hn:1000000<n)(K:At lo h db s B)(hb:B<800000)(hv:v.one=true):∃lo' h' S,world n (d+4) 30 [.agg [v,.int .i64 g,.int .i64 sz],.ptr db 0,.int .i64 z] h=some (.ret (.int .i64 (z1ef s z g sz)),h')∧At lo' h' db (z8c s z g sz) (B+3)∧z370 lo lo'∧Tch S h h'∧∀b∈S,lo b:=by
 suffices hK:Wp (world n (d+4) 30 [.agg [v,.int .i64 g,.int .i64 sz],.ptr db 0,.int .i64 z] h) fun r h'=>r=.ret (.int .i64 (z1ef s z g sz))∧∃lo' S,At lo' h' db (z8c s z g sz) (B+3)∧z370 lo lo'∧Tch S h h'∧∀b∈S,lo b by
  obtain⟨_,h',e,rfl,lo',S,k⟩:=hK;exact⟨lo',h',S,e,k⟩
 rw[z1d7];unfold z69 z1ef z8c;refine y1a (Mem.nil [] h) (by rw[List.all_cons,hv];rfl) fun h2 M2=>?_;have k2:=M2.at0.1;have t2:=M2.tch;have l2:=M2.at0.2.1;have K2:=K.part t2 (fun _ h=>nomatch h);have L2:z370 lo (fun b=>lo b∧(b<h.next∨h2.next≤b)):=fun b hb=>hb.1;refine Wp.obind (z6 _ _ _) (Wp.obind (y3 k2 (show [v,AV.int .i64 g,AV.int .i64 sz][0+1]? =some (.int .i64 g) from rfl)) (Wp.obind (z5 _ _) (Wp.obind (z6 _ _ _) (Wp.obind (y3 k2 (show [v,AV.int .i64 g,AV.int .i64 sz][0+2]? =some (.int .i64 sz) from rfl)) (Wp.obind (z5 _ _) (Wp.lett ?_))))))
 by_cases c1:g=sz
 ·rw [if_pos c1, if_pos c1]
  exact yc (zbb c1) (Wp.ret ⟨rfl,_,[],K2.mono (by omega),L2,t2,fun _ h=>nomatch h⟩)
 rw[if_neg c1,if_neg c1];obtain⟨h3,S3,e3,K3,t3,hS3⟩:=cut_ok (n:=n) (d:=d) (z:=z) (m:=g) hn K2 (by omega);have T3:Tch S3 h h3:=(t2.mono fun _ h=>nomatch h).trans t3;have hS3':∀b∈S3,lo b:=fun b hb=>(hS3 b hb).1;refine y9 (z8d c1) (Wp.obind (z6 _ _ _) (Wp.obind (y3 k2 (show [v,AV.int .i64 g,AV.int .i64 sz][0+1]? =some (.int .i64 g) from rfl)) (Wp.obind (z5 _ _) (Wp.callN e3 (Wp.obind (z5 _ _) (Wp.lett ?_))))))
 by_cases c2:z121 s z ⟨1,[],g⟩=0
 ·rw [if_neg (by simpa using c2), if_neg (by simpa using c2)]
  obtain⟨h4,S4,e4,K4,t4,hS4⟩:=z484 (n:=n) (d:=d) (z:=z) hn K3 (by omega);refine y9 (ze6 c2) (Wp.callN e4 (Wp.obind (z5 _ _) (Wp.ret ⟨rfl,_,S3++S4,K4.mono (by omega),L2,(T3.mono fun b hb=>.inl (List.mem_append_left _ hb)).trans (t4.mono fun b hb=>.inl (List.mem_append_right _ hb)),fun b hb=>?_⟩)))
  rcases List.mem_append.1 hb with hb|hb
  ·exact hS3' b hb
  ·exact(hS4 b hb).1
 ·rw [if_pos c2, if_pos c2]
  exact yc (z11b c2) (Wp.ret ⟨rfl,_,S3,K3.mono (by omega),L2,T3,hS3'⟩)
theorem z399{f:Int}(k:EntAt H v l)(hl:l.length<1000000)(hxl:∀b∈z5d v,b≠xb){k75:AHeap→R}(hk:∀H' x',RowH H' xb z23f (z13f db x')→x'={x with ne:=(z3b f l (x.ne,x.file)).1,file:=(z3b f l (x.ne,x.file)).2}→Tch [xb] H H'→Wp (k75 H') Q):
  ∀(r i fu:Nat) (H2:AHeap) (x2:BoxS),r+i=l.length→r<fu→Tch [xb] H H2→RowH H2 xb z23f (z13f db x2)→xb<H2.next→x2={x with ne:=(z3b f (l.take i) (x.ne,x.file)).1,file:=(z3b f (l.take i) (x.ne,x.file)).2}→
   Wp (z126 (.ptr xb 0) f v (l.length:Int) k75 fu (i:Int) H2) Q
 |_,_,0,_,_,_,hf,_,_,_,_=>by omega
 |0,i,fu+1,H2,x2,hi,_,t,kx,hb,hx2=>by
  rw[z164];unfold zfb;rw[List.take_of_length_le (by omega)] at hx2;exact Wp.lett (y9 (by rw[decide_eq_false_iff_not];omega) (hk H2 x2 kx hx2 t))
 |r+1,i,fu+1,H2,x2,hi,hf,t,kx,hb,hx2=>by
  have hil:i<l.length:=by omega
  have k2:=k.tch t (fun b hb h=>hxl b hb (List.mem_singleton.1 h));obtain⟨p,i1,r1⟩:=k2.at hil
  have hs:z3b f (l.take (i+1)) (x.ne,x.file)=if l[i].c>x2.ne.c then (l[i],f) else (x2.ne,x2.file):=by
   rw[List.take_succ_eq_append_getElem hil];unfold z3b;rw[List.foldl_append,hx2];rfl
  rw[z164];unfold zfb;refine Wp.lett (yc (by rw[decide_eq_true_eq];omega) (Wp.obind i1 (Wp.obind r1 (y15 (Mem.nil [] H2) fun h3 M3=>?_))));rw[z35];refine y18 M3 rfl rfl rfl fun h4 M4=>?_;have t4:=M4.tch;have k4:=M4.at0.1;have kx4:=kx.tch t4 hb (fun h=>nomatch h);have n4:=t4.1;refine Wp.obind (y3 k4 (show (z3ca l[i])[0]? =some (.int .i64 l[i].c) from rfl)) (Wp.obind (z5 _ _) (Wp.obind (z8 _ _) (Wp.obind (z6 _ _ _) (Wp.obind (z6 _ _ _) (Wp.obind (y3 kx4 (show (z13f db x2)[0+3+0]? =some (.int .i64 x2.ne.c) from rfl)) (Wp.obind (z5 _ _) (Wp.lett (y7 fun k101 e101=>?_))))))))
  have next:∀H5 x5,RowH H5 xb z23f (z13f db x5)→Tch [xb] H2 H5→x5={x with ne:=(z3b f (l.take (i+1)) (x.ne,x.file)).1,file:=(z3b f (l.take (i+1)) (x.ne,x.file)).2}→Wp (k101 H5) Q:=fun H5 x5 kx5 t5 hx5=>by
   rw[e101];refine yd (by omega) (by omega) ?_;rw[show (i:Int)+1=((i+1:Nat):Int) by omega];exact z399 k hl hxl hk r (i+1) fu H5 x5 (by omega) (by omega) (t.trans t5) kx5 (Nat.lt_of_lt_of_le hb t5.1) hx5
  by_cases c1:l[i].c>x2.ne.c
  ·rw [if_pos c1] at hs
   refine yc (decide_eq_true c1) (y1e M4 rfl (Wp.obind (z8 _ _) (Wp.obind (z6 _ _ _) (y32 kx4 rfl (show 0+3+3≤8 by decide) rfl fun h5 kx5 t5 n5=>Wp.obind (z8 _ _) (Wp.obind (z6 _ _ _) (Wp.st1 kx5 (show 0+6<8 by decide) rfl fun h6 kx6 t6 n6=>next h6 {x2 with ne:=l[i],file:=f} kx6 (((t4.mono fun _ h=>nomatch h).trans t5).trans t6) ?_))))));rw[hs,hx2]
  ·rw [if_neg c1] at hs
   refine y9 (decide_eq_false c1) (next h4 x2 kx4 (t4.mono fun _ h=>nomatch h) ?_);rw[hs,hx2]
end
abbrev ne0:Ent:=⟨0,0, -1⟩
def g0(s:DS)(f:Int):Int:=((29*(z44 (z21 s f)).length:Nat):Int)
def z0(s:DS)(f:Int):Int:=((z21 s f).length:Int)
def opD(s:DS):DS:=z8c (z8c s 0 (g0 s 0) (z0 s 0)) 1 (g0 s 1) (z0 s 1)
def opP(s:DS):Ent×Int:=z3b 1 (z44 (z21 s 1)) (z3b 0 (z44 (z21 s 0)) (ne0,0))
def opX(s:DS):BoxS:=⟨((z44 (z21 s 0)).length:Int),((z44 (z21 s 1)).length:Int),(opP s).1,(opP s).2,0⟩
def z23d(x:BoxS)(f:Nat)(m:Int):BoxS:=if f=0 then {x with m0:=m} else {x with m1:=m}
section
variable {lo:Nat→Prop}{n d D db xb B:Nat}{h h' H:AHeap}{s:DS}{v w:AV}{l l':List Ent}{x:BoxS}{Q:ARes→AHeap→Prop}
theorem bldTwo{a b c e:Int}(k:EntAt h v l)(k':EntAt h' w l'):z36d Try.prog 87 [(0,.agg [v,.int .i64 a,.int .i64 b]),(1,.agg [w,.int .i64 c,.int .i64 e])]=some [v,.int .i64 a,.int .i64 b,w,.int .i64 c,.int .i64 e]:=by
 rcases k with⟨rfl,_⟩|⟨c1,rfl,_⟩<;>rcases k' with⟨rfl,_⟩|⟨c2,rfl,_⟩
 ·kernel_rfl
 ·generalize l'.length = m
  kernel_rfl
 ·generalize l.length = m
  kernel_rfl
 ·generalize l.length = m
  generalize l'.length=m'
  kernel_rfl
theorem ixTwo0{a b c e:Int}(k:EntAt h v l)(k':EntAt h' w l')(H:AHeap):zc4 Try.prog H 87 (some (.agg [v,.int .i64 a,.int .i64 b,w,.int .i64 c,.int .i64 e])) (some (.int .i64 0))=some (.val (.agg [v,.int .i64 a,.int .i64 b]),H):=by
 rcases k with⟨rfl,_⟩|⟨c1,rfl,_⟩<;>rcases k' with⟨rfl,_⟩|⟨c2,rfl,_⟩
 ·kernel_rfl
 ·generalize l'.length = m
  kernel_rfl
 ·generalize l.length = m
  kernel_rfl
 ·generalize l.length = m
  generalize l'.length=m'
  kernel_rfl
theorem ixTwo1{a b c e:Int}(k:EntAt h v l)(k':EntAt h' w l')(H:AHeap):zc4 Try.prog H 87 (some (.agg [v,.int .i64 a,.int .i64 b,w,.int .i64 c,.int .i64 e])) (some (.int .i64 1))=some (.val (.agg [w,.int .i64 c,.int .i64 e]),H):=by
 rcases k with⟨rfl,_⟩|⟨c1,rfl,_⟩<;>rcases k' with⟨rfl,_⟩|⟨c2,rfl,_⟩
 ·kernel_rfl
 ·generalize l'.length = m
  kernel_rfl
 ·generalize l.length = m
  kernel_rfl
 ·generalize l.length = m
  generalize l'.length=m'
  kernel_rfl
theorem z39c{f fu:Nat}{g z:Int}{t26:List AV}(hf:f<2)(hn:1000000<n)(hix:∀H,zc4 Try.prog H 87 (some (.agg t26)) (some (.int .i64 (f:Int)))=some (.val (.agg [v,.int .i64 g,.int .i64 z]),H))(K:At lo H db s B)(hB:B<800000)(kx:RowH H xb z23f (z13f db x))(hxb:xb<H.next)(hxl:¬lo xb)(k:EntAt H v l)(hl:l.length<1000000)(hv:∀b∈z5d v,b<H.next∧¬lo b∧b≠xb)(he:z1ef s (f:Int) g z=0){k36:AHeap→R}(hk : ∀ lo' H' x' S, At lo' H' db (z8c s (f : Int) g z) (B + 3) → z370 lo lo' → RowH H' xb z23f (z13f db x') → x' = { z23d x f (l.length : Int) with ne := (z3b (f : Int) l (x.ne, x.file)).1, file := (z3b (f : Int) l (x.ne, x.file)).2 } → Tch S H H' → (∀ b ∈ S, lo b ∨ b = xb) →
   Wp (z66 (wL n (D+5) (d+5) false) n (.ptr db 0) (.ptr xb 0) t26 k36 fu ((f:Int)+1) H') Q):
  Wp (z66 (wL n (D+5) (d+5) false) n (.ptr db 0) (.ptr xb 0) t26 k36 (fu+1) (f:Int) H) Q:=by
 rw[z165];unfold zfc;refine Wp.lett (yc (by rw[decide_eq_true_eq];omega) (Wp.outK (hix H) (Wp.obind (z32 _) (y15 (Mem.nil [] H) fun h2 M2=>?_))));rw[z35];refine y18 M2 rfl rfl (by rw[List.all_cons,k.one];rfl) fun h3 M3=>y1e M3 rfl ?_;have t3:=M3.tch;have k3:=M3.at0.1;have l3:=M3.at0.2.1;have n3:=t3.1;have K3:=K.part t3 (fun _ h=>nomatch h);obtain⟨lo4,h4,S4,e4,K4,L4,t4,hS4⟩:=mend_w (n:=n) (d:=D+1) (z:=(f:Int)) (g:=g) (sz:=z) hn K3 hB k.one;have n4:=t4.1;have kx4:=(kx.tch t3 hxb (fun h=>nomatch h)).tch t4 (by omega) (fun hm=>hxl (hS4 _ hm).1);have kc4:=k3.tch t4 l3 (fun hm=>by rcases(hS4 _ hm).2 with h|h<;>omega);have ke4:=(k.tch t3 (fun _ _ h=>nomatch h)).tch t4 (fun b hb hm=>(hv b hb).2.1 (hS4 _ hm).1);refine Wp.callN ((z293 30).trans e4) (Wp.obind (z5 _ _) (Wp.lett (y9 (ze6 he) (Wp.obind (y3 kc4 rfl) (Wp.obind ke4.len (Wp.obind (z8 _ _) (Wp.obind (z6 _ _ _) ?_)))))))
 have hix2:z17b 2 1 (.ptr xb (0+1)) (f:Int)=some (.ptr xb (1+f)):=by
  rcases(show f=0∨f=1 by omega) with rfl|rfl<;>rfl
 refine Wp.obind hix2 (Wp.st1 kx4 (show 1+f<8 by omega) rfl fun h5 kx5 t5 n5=>?_);have kc5:=kc4.tch t5 (by omega) (fun h=>by have:=List.mem_singleton.1 h;omega);have ke5:=ke4.tch t5 (fun b hb h=>(hv b hb).2.2 (List.mem_singleton.1 h))
 have kx5':RowH h5 xb z23f (z13f db (z23d x f (l.length:Int))):=by
  unfold z23d
  rcases(show f=0∨f=1 by omega) with rfl|rfl
  ·exact kx5
  ·exact kx5
 have hsx:(z23d x f (l.length:Int)).ne=x.ne∧(z23d x f (l.length:Int)).file=x.file:=by
  unfold z23d
  split<;>exact⟨rfl,rfl⟩
 refine Wp.obind (y3 kc5 rfl) (Wp.obind ke5.len (y7 fun k75 e75=>?_));refine z399 (db:=db) (xb:=xb) (x:=z23d x f (l.length:Int)) ke5 hl (fun b hb=>(hv b hb).2.2) (fun h6 x6 kx6 hx6 t6=>?_) l.length 0 n h5 (z23d x f (l.length:Int)) (Nat.add_zero _) (by omega) (Tch.refl _ _) kx5' (by omega) rfl;rw[hsx.1,hsx.2] at hx6;rw[e75];refine yd (by omega) (by omega) ?_;have T:Tch (xb::S4) H h6:=((((t3.mono (S':=xb::S4) fun _ h=>nomatch h).trans (t4.mono fun b hb=>.inl (List.mem_cons_of_mem _ hb))).trans (t5.mono fun b hb=>.inl (by rw[List.mem_singleton.1 hb];exact List.mem_cons_self ..))).trans (t6.mono fun b hb=>.inl (by rw[List.mem_singleton.1 hb];exact List.mem_cons_self ..)));have nlx:¬lo4 xb:=fun hh=>hxl (L4 _ hh).1;have K6:=(K4.tch t5 (fun b hb=>.inl (by rw[List.mem_singleton.1 hb];exact nlx))).tch t6 (fun b hb=>.inl (by rw[List.mem_singleton.1 hb];exact nlx));refine hk lo4 h6 x6 (xb::S4) K6 (fun b hb=>(L4 b hb).1) kx6 hx6 T fun b hb=>?_
 rcases List.mem_cons.1 hb with rfl|hb
 ·exact .inr rfl
 ·exact .inl (hS4 b hb).1
set_option maxHeartbeats 1000000 in
theorem open_w(K:At lo H db s B)(hB:B<700000)(hn:1000000000<n)(hp:s.p≠0)(hu0:(z21 s 0).length <1000000)(hu1:(z21 s 1).length <1000000)(h0:z1ef s 0 (g0 s 0) (z0 s 0)=0)(h1:z1ef (z8c s 0 (g0 s 0) (z0 s 0)) 1 (g0 s 1) (z0 s 1)=0):
  ∃lo' H' xb S,wL n (D+5) (d+6) false 10 [.ptr db 0] H=some (.ret (.tup [.ptr xb 0,.int .i64 0]),H')∧At lo' H' db (opD s) (B+6)∧z370 lo lo'∧RowH H' xb z23f (z13f db (opX s))∧xb<H'.next∧H.next≤xb∧¬lo' xb∧Tch S H H'∧∀b∈S,lo b:=by
 suffices hK:Wp (z14a (wL n (D+5) (d+5) false) n (.ptr db 0) H) fun r H'=>∃lo' xb S,r=.ret (.tup [.ptr xb 0,.int .i64 0])∧At lo' H' db (opD s) (B+6)∧z370 lo lo'∧RowH H' xb z23f (z13f db (opX s))∧xb<H'.next∧H.next≤xb∧¬lo' xb∧Tch S H H'∧∀b∈S,lo b by
  obtain⟨_,H',e,lo',xb,S,rfl,k⟩:=hK;exact⟨lo',H',xb,S,z381 n (D+5) (d+5) _ e,k⟩
 unfold z14a;refine Wp.outK (z278 db 0 H) (Wp.obind (z13 _) (y9 rfl (Wp.callN ((z293 28).trans (on_b (n:=n) (d:=D+4) K)) (Wp.obind (z13 _) (Wp.lett ?_)))));rw[decide_eq_true hp];obtain⟨h2,v0,e2,k2,t2⟩:=look_w (n:=n) (D:=D) (d:=d) (f:=0) K (by omega) hn;have n2:=t2.1;have K2:=K.part t2 (fun _ h=>nomatch h);obtain⟨h3,v1,e3,k3,t3⟩:=look_w (n:=n) (D:=D) (d:=d) (f:=1) K2 (by omega) hn;have n3:=t3.1;have K3:=K2.part t3 (fun _ h=>nomatch h);obtain⟨E0,b0⟩:=Sli.ents k2;obtain⟨E1,b1⟩:=Sli.ents k3;have E03:=E0.tch t3 (fun _ _ h=>nomatch h);refine y9 rfl (Wp.callN e2 (Wp.obind (z32 _) (Wp.callN e3 (Wp.obind (z32 _) (Wp.obind (bldTwo E03 E1) (y15 (Mem.nil [] h3) fun h4 M4=>?_))))));rw[z35];refine y18 M4 rfl rfl (by rw[List.all_cons,E03.one];show (true&&(true&&(true&&(v1.one&&_))))=true;rw[E1.one];rfl) fun h5 M5=>Wp.obind (a:=[.int .i64 0,.int .i64 0,.int .i64 (-1)]) (by kernel_rfl) (Wp.obind (a:=z13f db ⟨0,0,ne0,0,0⟩) (by kernel_rfl) (y1a M5 rfl fun h6 M6=>Wp.lr1 M6 rfl (y7 fun k36 e36=>?_)));have t6:=M6.tch;have kx6:=M6.at0.1;have lx6:=M6.at0.2.1;have n5:=M5.tch.1;have n6:=t6.1;have K6:=K3.part t6 (fun _ h=>nomatch h);have E06:=E03.tch t6 (fun _ _ h=>nomatch h);have E16:=E1.tch t6 (fun _ _ h=>nomatch h);have hl0:=z104 (z21 s 0);have hl1:=z104 (z21 s 1);obtain⟨m,hm⟩:∃m,n=m+3:=⟨n - 3,by omega⟩
 have hfu:∀T,(Wp (z66 (wL n (D+5) (d+5) false) n (.ptr db 0) (.ptr h5.next 0) T k36 (m+1+1+1) ((0:Nat):Int) h6) fun r H'=>∃lo' xb S,r=.ret (.tup [.ptr xb 0,.int .i64 0])∧At lo' H' db (opD s) (B+6)∧z370 lo lo'∧RowH H' xb z23f (z13f db (opX s))∧xb<H'.next∧H.next≤xb∧¬lo' xb∧Tch S H H'∧∀b∈S,lo b)→Wp (z66 (wL n (D+5) (d+5) false) n (.ptr db 0) (.ptr h5.next 0) T k36 n 0 h6) fun r H'=>∃lo' xb S,r=.ret (.tup [.ptr xb 0,.int .i64 0])∧At lo' H' db (opD s) (B+6)∧z370 lo lo'∧RowH H' xb z23f (z13f db (opX s))∧xb<H'.next∧H.next≤xb∧¬lo' xb∧Tch S H H'∧∀b∈S,lo b:=fun T hw=>by
  have:n=m+1+1+1:=by omega
  rw[show (z66 (wL n (D+5) (d+5) false) n (.ptr db 0) (.ptr h5.next 0) T k36 n 0 h6)=z66 (wL n (D+5) (d+5) false) n (.ptr db 0) (.ptr h5.next 0) T k36 (m+1+1+1) ((0:Nat):Int) h6 from by rw[←this];rfl];exact hw
 refine hfu _ ?_
 have nl6:¬(fun b=>(fun b=>(fun b=>lo b∧(b<H.next∨h2.next≤b)) b∧(b<h2.next∨h3.next≤b)) b∧(b<h3.next∨h6.next≤b)) h5.next:=fun hh=>by
  rcases hh.2 with h|h<;>omega
 refine z39c (f:=0) (D:=D) (d:=d) (x:=⟨0,0,ne0,0,0⟩) (by decide) (by omega) (fun H=>ixTwo0 E06 E16 H) K6 (by omega) kx6 lx6 nl6 E06 (by omega) (fun b hb=>by
  obtain⟨c1,c2⟩:=b0 b hb;refine⟨by omega,fun hh=>?_,by omega⟩
  rcases hh.1.1.2 with h|h<;>omega) h0 (fun lo7 h7 x7 S7 K7 L7 kx7 hx7 t7 hS7=>?_)
 have n7:=t7.1
 have E17:=E16.tch t7 (fun b hb hm=>by
  obtain⟨c1,c2⟩:=b1 b hb
  rcases hS7 b hm with hh|hh
  ·rcases hh.1.2 with h|h<;>omega
  ·omega)
 have nl7:¬lo7 h5.next:=fun hh=>nl6 (L7 _ hh)
 refine z39c (f:=1) (D:=D) (d:=d) (x:=x7) (by decide) (by omega) (fun H=>ixTwo1 E06 E16 H) K7 (by omega) kx7 (by omega) nl7 E17 (by omega) (fun b hb=>by
  obtain⟨c1,c2⟩:=b1 b hb;refine⟨by omega,fun hh=>?_,by omega⟩
  rcases(L7 _ hh).1.2 with h|h<;>omega) h1 (fun lo8 h8 x8 S8 K8 L8 kx8 hx8 t8 hS8=>?_)
 have n8:=t8.1;rw[z165];unfold zfc;refine Wp.lett (y9 rfl ?_);rw[e36]
 have hX:x8=opX s:=by
  rw[hx8,hx7];rfl
 have nl8:¬lo8 h5.next:=fun hh=>nl7 (L8 _ hh);have T6:Tch [] H h6:=(t2.trans t3).trans t6;refine Wp.ret ⟨lo8,h5.next,(S7++S8).filter (fun b=>decide (b≠h5.next)),rfl,K8,fun b hb=>(L7 _ (L8 _ hb)).1.1.1,by rw[←hX];exact kx8,by omega,by omega,nl8,?_,fun b hb=>?_⟩
 ·refine ((T6.mono fun _ h => nomatch h).trans' (t7.mono (S' := S7 ++ S8) fun b hb => .inl (List.mem_append_left _ hb)) fun b hb => ?_).trans' (t8.mono (S' := S7 ++ S8) fun b hb => .inl (List.mem_append_right _ hb)) fun b hb => ?_
  ·by_cases hbx : b = h5.next
   ·exact .inr (by omega)
   ·exact .inl (List.mem_filter.2 ⟨hb,decide_eq_true hbx⟩)
  ·by_cases hbx : b = h5.next
   ·exact .inr (by omega)
   ·exact .inl (List.mem_filter.2 ⟨hb,decide_eq_true hbx⟩)
 ·obtain ⟨hm, hne⟩ := List.mem_filter.1 hb
  have hne:=of_decide_eq_true hne
  rcases List.mem_append.1 hm with hm|hm
  ·rcases hS7 b hm with h | h
   ·exact h.1.1.1
   ·exact absurd h hne
  ·rcases hS8 b hm with h | h
   ·exact(L7 _ h).1.1.1
   ·exact absurd h hne
end
abbrev TPB:Nat:=25
abbrev TBoo:Nat:=4
theorem eqBal(a b c d:Int):zc7 Try.prog TBal (.agg [.int .i64 a,.int .i64 b]) (.agg [.int .i64 c,.int .i64 d])=some (decide (a=c∧b=d)):=by
 have hf:flatB Try.prog TBal [1,1]=true:=by kernel_rfl
 have he:eqL [1,1] [.int .i64 a,.int .i64 b] [.int .i64 c,.int .i64 d]=some ((a == c)&&((b == d)&&true)):=z29a rfl (z1bd _ _ _) (z29a rfl (z1bd _ _ _) rfl);rw[eq_flat hf he]
 by_cases h1:a=c
 ·by_cases h2 : b = d
  ·simp[h1,h2]
  ·simp[h2]
 ·simp[h1]
def chR:Chg:=⟨2,[],0⟩
def chA(u:zf):Chg:=⟨0,u,0⟩
def there(s:DS)(g:Int):Bool:=(s.fs g.toNat).seen.th
def z17f(s:DS)(g:Int)(fr:Bool):Int×DS:=if (fr&&there s g)=true then (z121 s g chR,z15d s g chR) else (0,s)
def z12a(s:DS)(g:Int)(fr:Bool)(u:zf):Int×DS:=
 if (z17f s g fr).1≠0 then z17f s g fr else
 if z121 (z17f s g fr).2 g (chA u)≠0 then (z121 (z17f s g fr).2 g (chA u),z15d (z17f s g fr).2 g (chA u)) else
 (zd7 (z15d (z17f s g fr).2 g (chA u)).p g,z1fb (z15d (z17f s g fr).2 g (chA u)) g)
theorem z266(s:DS)(f:Nat):∀k,(f:Int)∈z159 s k↔f<k∧(s.fs f).seen.th=true
 |0=>by
  show (f:Int)∈[]↔_;exact⟨(fun h=>nomatch h),fun h=>by omega⟩
 |k+1=>by
  have ih:=z266 s f k;unfold z159
  split
  ·rename_i h1
   rw[List.mem_append,List.mem_singleton,ih];constructor
   ·rintro (⟨h2, h3⟩ | h2)
    ·exact⟨by omega,h3⟩
    ·have : f = k := by omega
     subst this;exact⟨by omega,h1⟩
   ·rintro ⟨h2, h3⟩
    by_cases he:f=k
    ·exact .inr (by omega)
    ·exact .inl ⟨by omega,h3⟩
  ·rename_i h1
   rw[ih];constructor
   ·rintro ⟨h2, h3⟩
    exact⟨by omega,h3⟩
   ·rintro ⟨h2, h3⟩
    have:f≠k:=fun he=>by
     subst he;exact h1 h3
    exact⟨by omega,h3⟩
section
variable {lo:Nat→Prop}{n d D db xb vb fb rb tb B:Nat}{h h' H:AHeap}{s:DS}{v:AV}{zs:List Int}{x:BoxS}{Q:ARes→AHeap→Prop}{g:Int}{fr:Bool}{u:zf}
theorem z318{z:Int}(k:IAt H v zs)(hl:zs.length<1000000){k6:AHeap→R}(hk:z ∉ zs→Wp (k6 H) Q)(hf:∀i:Nat,z∈zs→Q (.ret (.int .i64 (i:Int))) H):∀(r i fu:Nat),r+i=zs.length→r<fu→z ∉ zs.take i→Wp (z43 v z (zs.length:Int) k6 fu (i:Int) H) Q
 |_,_,0,_,hfu,_=>by omega
 |0,i,fu+1,hi,_,hz=>by
  rw[z64];unfold z3f;rw[List.take_of_length_le (by omega)] at hz;exact Wp.lett (y9 (by rw[decide_eq_false_iff_not];omega) (hk hz))
 |r+1,i,fu+1,hi,hfu,hz=>by
  have hil:i<zs.length:=by omega
  obtain⟨p,i1,r1⟩:=k.at hil;rw[z64];unfold z3f;refine Wp.lett (yc (by rw[decide_eq_true_eq];omega) (Wp.obind i1 (Wp.obind r1 (Wp.obind (z5 _ _) (Wp.lett ?_)))))
  by_cases hc:z=zs[i]
  ·exact yc (zbb hc) (Wp.ret (hf i (by rw[hc];exact List.getElem_mem hil)))
  ·refine y9 (z8d hc) (yd (by omega) (by omega) ?_)
   rw[show (i:Int)+1=((i+1:Nat):Int) by omega];refine z318 k hl hk hf r (i+1) fu (by omega) (by omega) fun hm=>?_;rw[List.take_succ_eq_append_getElem hil,List.mem_append,List.mem_singleton] at hm;exact hm.elim hz hc
theorem z46a{z:Int}(k:IAt H v zs)(hl:zs.length<1000000)(hn:1000000<n):world n (d+2) 35 [v,.int .i64 z] H=some (.ret (.bool (decide (z∈zs))),H):=by
 have hi:∃j:Int,world n (d+1) 60 [v,.int .i64 z] H=some (.ret (.int .i64 j),H)∧(0≤j↔z∈zs):=by
  suffices hK:Wp (world n (d+1) 60 [v,.int .i64 z] H) fun r h'=>h'=H∧∃j:Int,r=.ret (.int .i64 j)∧(0≤j↔z∈zs) by
   obtain⟨_,h',e,rfl,j,rfl,k⟩:=hK;exact⟨j,e,k⟩
  rw[z163];unfold z40;refine Wp.obind k.len (y7 fun k6 e6=>?_);refine z318 k hl (fun hz=>?_) (fun i hz=>⟨rfl,(i:Int),rfl,⟨fun _=>hz,fun _=>by omega⟩⟩) zs.length 0 n (Nat.add_zero _) (by omega) (fun h=>nomatch h);rw[e6];exact Wp.ret ⟨rfl, -1,rfl,⟨fun h=>by omega,fun h=>absurd h hz⟩⟩
 obtain⟨j,e,hj⟩:=hi;apply Wp.eq;rw[z134];unfold z33;refine Wp.callN e (Wp.obind (z5 _ _) (Wp.lett (Wp.ret ⟨?_,rfl⟩)));rw[show decide (j≥0)=decide (z∈zs) from decide_eq_decide.2 hj]
structure Clo (lo:Nat→Prop) (h:AHeap) (xb vb fb rb tb db:Nat) (x:BoxS) (g:Int) (fr:Bool) (u:zf):Prop where
 kx:RowH h xb z23f (z13f db x)
 kv:RowH h vb TPB [.ptr xb 0]
 kf:RowH h fb TI3 [.int .i64 g]
 kr:RowH h rb TBoo [.bool fr]
 kt:RowH h tb z3c8 [ze u]
 lx:xb<h.next∧¬lo xb
 lv:vb<h.next∧¬lo vb
 lf:fb<h.next∧¬lo fb
 lr:rb<h.next∧¬lo rb
 lt:tb<h.next∧¬lo tb
theorem Clo.tch{S:List Nat}{lo':Nat→Prop}(C:Clo lo h xb vb fb rb tb db x g fr u)(t:Tch S h h')(hS:∀b∈S,lo b)(hl:z370 lo lo'):Clo lo' h' xb vb fb rb tb db x g fr u:=
  ⟨C.kx.tch t C.lx.1 fun hm => C.lx.2 (hS _ hm), C.kv.tch t C.lv.1 fun hm => C.lv.2 (hS _ hm), C.kf.tch t C.lf.1 fun hm => C.lf.2 (hS _ hm), C.kr.tch t C.lr.1 fun hm => C.lr.2 (hS _ hm), C.kt.tch t C.lt.1 fun hm => C.lt.2 (hS _ hm),
   ⟨Nat.lt_of_lt_of_le C.lx.1 t.1,fun hh=>C.lx.2 (hl _ hh)⟩,⟨Nat.lt_of_lt_of_le C.lv.1 t.1,fun hh=>C.lv.2 (hl _ hh)⟩,⟨Nat.lt_of_lt_of_le C.lf.1 t.1,fun hh=>C.lf.2 (hl _ hh)⟩,⟨Nat.lt_of_lt_of_le C.lr.1 t.1,fun hh=>C.lr.2 (hl _ hh)⟩,⟨Nat.lt_of_lt_of_le C.lt.1 t.1,fun hh=>C.lt.2 (hl _ hh)⟩⟩
theorem wr1_w(hn:1000000<n)(K:At lo h db s B)(hB:B<800000)(C:Clo lo h xb vb fb rb tb db x g fr u)(hg:g=0∨g=1):
  ∃lo' h' S,world n (d+4) 34 [.ptr rb 0,.ptr vb 0,.ptr fb 0] h=some (.ret (.int .i64 (z17f s g fr).1),h')∧At lo' h' db (z17f s g fr).2 (B+2)∧z370 lo lo'∧Tch S h h'∧∀b∈S,lo b:=by
 suffices hK:Wp (world n (d+4) 34 [.ptr rb 0,.ptr vb 0,.ptr fb 0] h) fun r h'=>r=.ret (.int .i64 (z17f s g fr).1)∧∃lo' S,At lo' h' db (z17f s g fr).2 (B+2)∧z370 lo lo'∧Tch S h h'∧∀b∈S,lo b by
  obtain⟨_,h',e,rfl,lo',S,k⟩:=hK;exact⟨lo',h',S,e,k⟩
 rw[z206];unfold z7c z17f;refine y7 fun k4 e4=>Wp.obind (y3 C.kr rfl) (Wp.obind (z13 _) (Wp.lett ?_))
 cases fr with
 |false=>
  rw[Bool.false_and,if_neg (by decide)];refine yc rfl ?_;rw[e4];exact yc rfl (Wp.ret ⟨rfl,lo,[],K.mono (by omega),fun _ h=>h,Tch.refl _ _,fun _ h=>nomatch h⟩)
 |true=>
  obtain⟨h2,v2,e2,t2,k2,b2⟩:=files_a (n:=n) (d:=d+2) K hn;have hle:=z2cc s 32;have C2:=C.tch t2 (fun _ h=>nomatch h) (fun _ h=>h);have K2:=K.part t2 (fun _ h=>nomatch h);have hre:z6e Try.prog h2 TI3 (.ptr fb 0) (.int .i64 g)=true:=z83 (by kernel_rfl) (y3 C2.kf rfl);refine y9 rfl (Wp.obind (y3 C.kv rfl) (Wp.obind (z8 _ _) (Wp.obind (z6 _ _ _) (Wp.obind (y3 C.kx (show (z13f db x)[0+0]? =some (.ptr db 0) from rfl)) (Wp.obind (y3 C.kf rfl) (Wp.obind (z5 _ _) (Wp.callN e2 (Wp.chk (by rw[hre];rfl) (Wp.callN (z46a (n:=n) (d:=d+1) (z:=g) k2 (by omega) hn) (Wp.obind (z13 _) (Wp.lett ?_)))))))))))
  have hmem:g∈z159 s 32↔there s g=true:=by
   rcases hg with rfl|rfl
   ·have := z266 s 0 32
    exact⟨fun h=>(this.1 h).2,fun h=>this.2 ⟨by decide,h⟩⟩
   ·have := z266 s 1 32
    exact⟨fun h=>(this.1 h).2,fun h=>this.2 ⟨by decide,h⟩⟩
  by_cases hc:there s g=true
  ·rw [if_pos (show (true && there s g) = true by rw [hc]; rfl), decide_eq_true (hmem.2 hc), e4]
   obtain⟨h3,S3,e3,K3,t3,hS3⟩:=z497 (n:=n) (d:=d) (z:=g) hn K2 (by omega);refine y9 rfl (Wp.obind (y3 C2.kv rfl) (Wp.obind (z8 _ _) (Wp.obind (z6 _ _ _) (Wp.obind (y3 C2.kx (show (z13f db x)[0+0]? =some (.ptr db 0) from rfl)) (Wp.obind (y3 C2.kf rfl) (Wp.obind (z5 _ _) (Wp.callN e3 (Wp.obind (z5 _ _) (Wp.ret ⟨rfl,_,S3,K3,fun b hb=>hb.1,(t2.mono fun _ h=>nomatch h).trans t3,fun b hb=>(hS3 b hb).1⟩)))))))))
  ·rw [if_neg (show ¬ (true && there s g) = true by simpa using hc), decide_eq_false (fun h => hc (hmem.1 h)), e4]
   exact yc rfl (Wp.ret ⟨rfl,_,[],K2.mono (by omega),fun b hb=>hb.1,t2,fun _ h=>nomatch h⟩)
theorem wr2_w(hn:1000000<n)(K:At lo h db s B)(hB:B+u.length<800000)(C:Clo lo h xb vb fb rb tb db x g fr u):
  Does lo db h (world n (d+4) 37 [.ptr vb 0,.ptr fb 0,.ptr tb 0] h) (z121 s g (chA u)) (z15d s g (chA u)) (B+u.length+2):=by
 apply Does.of;obtain⟨h3,S3,e3,K3,t3,hS3⟩:=z239 (n:=n) (d:=d) (z:=g) (u:=u) hn K (by omega);rw[z205];unfold z7b;exact Wp.obind (y3 C.kv rfl) (Wp.obind (z8 _ _) (Wp.obind (z6 _ _ _) (Wp.obind (y3 C.kx (show (z13f db x)[0+0]? =some (.ptr db 0) from rfl)) (Wp.obind (y3 C.kf rfl) (Wp.obind (z5 _ _) (Wp.obind (y3 C.kt rfl) (Wp.obind (z16 _) (Wp.callN e3 (Wp.obind (z5 _ _) (Wp.ret ⟨rfl,S3,K3,t3,hS3⟩))))))))))
theorem wr3_w(hn:1000000<n)(K:At lo h db s B)(hB:B<800000)(C:Clo lo h xb vb fb rb tb db x g fr u):
  Does lo db h (world n (d+4) 38 [.ptr vb 0,.ptr fb 0] h) (zd7 s.p g) (z1fb s g) (B+1):=by
 apply Does.of;obtain⟨h3,S3,e3,K3,t3,hS3⟩:=z484 (n:=n) (d:=d) (z:=g) hn K (by omega);rw[z204];unfold z7a;exact Wp.obind (y3 C.kv rfl) (Wp.obind (z8 _ _) (Wp.obind (z6 _ _ _) (Wp.obind (y3 C.kx (show (z13f db x)[0+0]? =some (.ptr db 0) from rfl)) (Wp.obind (y3 C.kf rfl) (Wp.obind (z5 _ _) (Wp.callN e3 (Wp.obind (z5 _ _) (Wp.ret ⟨rfl,S3,K3,t3,hS3⟩))))))))
theorem wstep{call:z11}{t60:List AV}{fv:AV}{i:Nat}{e:Int}{h1:AHeap}{k83:AHeap→R}{fu:Nat}(hi:i<3)(hix:zc4 Try.prog H 99 (some (.agg t60)) (some (.int .i64 (i:Int)))=some (.val fv,H))(kv:RowH H vb TPB [.ptr xb 0])(hc:dynC Try.prog call fv [] H=some (.ret (.int .i64 e),h1))(kv1:RowH h1 vb TPB [.ptr xb 0])(hvb:vb<h1.next)(kx1:RowH h1 xb z23f (z13f db x))(hne:vb≠xb)(y0:e=0→∀H2,RowH H2 xb z23f (z13f db {x with br:=0})→Tch [xb] h1 H2→H2.next=h1.next→Wp (z4d call (.ptr vb 0) t60 k83 fu ((i:Int)+1) H2) Q)(y1:e≠0→∀H2,RowH H2 xb z23f (z13f db {x with br:=e})→Tch [xb] h1 H2→H2.next=h1.next→Q (.ret (.int .i64 e)) H2):
  Wp (z4d call (.ptr vb 0) t60 k83 (fu+1) (i:Int) H) Q:=by
 rw[ze8];unfold z82;have hre:z6e Try.prog h1 TPB (.ptr vb 0) (.ptr xb 0)=true:=z83 (by kernel_rfl) (y3 kv1 rfl);refine Wp.lett (yc (by rw[decide_eq_true_eq];omega) (Wp.outK hix (Wp.obind (y3 kv rfl) (Wp.callN hc (Wp.obind (z5 _ _) (Wp.chk (by rw[hre];rfl) (Wp.obind (z8 _ _) (Wp.obind (z6 _ _ _) ?_))))))));refine Wp.st1 kx1 (show 0+7<8 by decide) rfl fun h2 kx2 t2 n2=>?_;have kx2':RowH h2 xb z23f (z13f db {x with br:=e}):=kx2;have kv2:=kv1.tch t2 hvb (fun h=>hne (List.mem_singleton.1 h));refine Wp.obind (y3 kv2 rfl) (Wp.obind (z8 _ _) (Wp.obind (z6 _ _ _) (Wp.obind (y3 kx2' (show (z13f db {x with br:=e})[0+7]? =some (.int .i64 e) from rfl)) (Wp.obind (z5 _ _) (Wp.lett ?_)))))
 by_cases he:e=0
 ·subst he
  exact y9 (ze6 rfl) (yd (by omega) (by omega) (y0 rfl h2 kx2' t2 n2))
 ·exact yc (z11b he) (Wp.obind (y3 kv2 rfl) (Wp.obind (z8 _ _) (Wp.obind (z6 _ _ _) (Wp.obind (y3 kx2' (show (z13f db {x with br:=e})[0+7]? =some (.int .i64 e) from rfl)) (Wp.obind (z5 _ _) (Wp.ret (y1 he h2 kx2' t2 n2)))))))
end
def z2f2(x:BoxS)(t f:Int):Int:=if x.br≠0 then x.br else if z192 t f then (if z2f4 t f x.ne.t x.ne.f=true then 0 else 5) else 2
def zca(x:BoxS)(t f:Int):Ent:=⟨x.ne.c+1,t,f⟩
def newX(x:BoxS)(t f:Int):BoxS:={z23d x (z1c x).toNat ((if z1d x=true then 0 else if z1c x=0 then x.m0 else x.m1)+1) with ne:=zca x t f,file:=z1c x,br:=0}
def wr(s:DS)(x:BoxS)(t f:Int):Int×BoxS×DS:=
 if z2f2 x t f≠0 then (z2f2 x t f,x,s) else if t=x.ne.t∧f=x.ne.f then (0,x,s) else if x.ne.c≥4611686018427387904 then (5,x,s) else
 if (z12a s (z1c x) (z1d x) (z2e (z10b (zca x t f)))).1≠0 then ((z12a s (z1c x) (z1d x) (z2e (z10b (zca x t f)))).1,{x with br:=(z12a s (z1c x) (z1d x) (z2e (z10b (zca x t f)))).1},(z12a s (z1c x) (z1d x) (z2e (z10b (zca x t f)))).2)
 else (0,newX x t f,(z12a s (z1c x) (z1d x) (z2e (z10b (zca x t f)))).2)
theorem place01{x:BoxS}(hf:x.file=0∨x.file=1):z1c x=0∨z1c x=1:=by
 unfold z1c
 by_cases h1:x.ne.c=0
 ·rw [if_pos h1]
  exact .inl rfl
 rw[if_neg h1]
 by_cases h2:(if x.file=0 then x.m0 else x.m1)<8
 ·rw [if_pos h2]
  exact hf
 rw[if_neg h2]
 by_cases h3:x.file=0
 ·rw [if_pos h3]
  exact .inr rfl
 ·rw [if_neg h3]
  exact .inl rfl
theorem z365{P:Program}{call:z11}{f:FuncId}{caps:List AV}{h:AHeap}(hb:z117 P f=true):dynC P call (.fn f [] caps) [] h=call f caps h:=by
 have e:z2ff P h [] (some (.fn f [] caps))=some (.call f caps,h):=by
  show (if z117 P f=true then some (ANext.call f ([]++[]++caps),h) else _)=_;rw[if_pos hb];rfl
 unfold dynC;rw[e]
theorem z49a{x:BoxS}{t f:Int}(h:z2f2 x t f=0):x.br=0∧z192 t f∧z2f4 t f x.ne.t x.ne.f=true:=by
 unfold z2f2 at h
 split at h
 ·rename_i h1
  exact absurd h h1
 ·rename_i h1
  split at h
  ·rename_i h2
   split at h
   ·rename_i h3
    exact⟨by simpa using h1,h2,h3⟩
   ·omega
  ·omega
section
variable {lo:Nat→Prop}{n d D db xb B:Nat}{h:AHeap}{s:DS}{x:BoxS}{t f:Int}
set_option maxHeartbeats 2000000 in
theorem z479(hn:1000000<n)(K:At lo h db s B)(hB:B<700000)(kx:RowH h xb z23f (z13f db x))(hxb:xb<h.next)(hxl:¬lo xb)(hf:x.file=0∨x.file=1)(hc0:0≤x.ne.c)(hm0:0≤x.m0∧x.m0<1000000)(hm1:0≤x.m1∧x.m1<1000000):
  ∃lo' h' S,world n (d+6) 11 [.ptr xb 0,.agg [.int .i64 t,.int .i64 f]] h=some (.ret (.int .i64 (wr s x t f).1),h')∧At lo' h' db (wr s x t f).2.2 (B+40)∧z370 lo lo'∧RowH h' xb z23f (z13f db (wr s x t f).2.1)∧¬lo' xb∧Tch S h h'∧∀b∈S,lo b∨b=xb:=by
 suffices hK:Wp (world n (d+6) 11 [.ptr xb 0,.agg [.int .i64 t,.int .i64 f]] h) fun r h'=>r=.ret (.int .i64 (wr s x t f).1)∧∃lo' S,At lo' h' db (wr s x t f).2.2 (B+40)∧z370 lo lo'∧RowH h' xb z23f (z13f db (wr s x t f).2.1)∧¬lo' xb∧Tch S h h'∧∀b∈S,lo b∨b=xb by
  obtain⟨_,h',e,rfl,lo',S,k⟩:=hK;exact⟨lo',h',S,e,k⟩
 have hx:=K.ex;rw[z286];unfold zb2;refine Wp.outK (v:=.ptr h.next 0) (h1:=newH h TPB [.ptr xb 0]) (by rfl) ?_;obtain⟨h2,hh2⟩:∃h2,h2=newH h TPB [.ptr xb 0]:=⟨_,rfl⟩;have kv2:RowH h2 h.next TPB [.ptr xb 0]:=by rw[hh2];exact RowH.new _ _ _
 have lv2:h.next<h2.next:=by rw[hh2];exact lt_newH _ _ _
 have t2:Tch [] h h2:=by rw[hh2];exact Tch.newH _ _ _ _
 rw[←hh2];refine y1a (Mem.nil [] h2) rfl fun h4 M4=>?_;have kb4:=M4.at0.1;have lb4:=M4.at0.2.1;have t4:=M4.tch;have kv4:=kv2.tch t4 lv2 (fun h=>nomatch h);have T4:=t2.trans t4;have kx4:=kx.tch T4 hxb (fun h=>nomatch h);have n4:=t4.1;obtain⟨h10,e10,t10⟩:=z499 (n:=n) (d:=d+3) (t:=t) (f:=f) kx4 (by omega);have n10:=t10.1;have kb10:=kb4.tch t10 lb4 (fun h=>nomatch h);have kv10:=kv4.tch t10 (by omega) (fun h=>nomatch h);have kx10:=kx4.tch t10 (by omega) (fun h=>nomatch h);have T10:=T4.trans t10;have K10:=K.part T10 (fun _ h=>nomatch h);have nl10:¬(fun b=>lo b∧(b<h.next∨h10.next≤b)) xb:=fun hh=>hxl hh.1;have e10':world n (d+5) 31 [.ptr xb 0,.agg [.int .i64 t,.int .i64 f]] h4=some (.ret (.int .i64 (z2f2 x t f)),h10):=e10;refine Wp.obind (y3 kv4 rfl) (y1e M4 rfl (Wp.callN e10' (Wp.obind (z5 _ _) (y7 fun k14 e14=>Wp.lett ?_))))
 by_cases c1:z2f2 x t f=0
 case neg=>
  refine yc (z11b c1) ?_;have hw:wr s x t f=(z2f2 x t f,x,s):=if_pos c1;rw[e14,hw];exact yc rfl (Wp.ret ⟨rfl,_,[],K10.mono (by omega),fun b hb=>hb.1,kx10,nl10,T10,fun _ h=>nomatch h⟩)
 obtain⟨hbr,hbo,_⟩:=z49a c1;refine y9 (ze6 c1) (Wp.obind (RowH.ldAll kb10 rfl) (Wp.obind (y3 kv10 rfl) (Wp.obind (z8 _ _) (Wp.obind (z6 _ _ _) (Wp.obind (z6 _ _ _) (Wp.obind (kx10.ld (o:=0+3+1) (n:=2) (show 0+3+1+2≤8 by decide)) (Wp.obind (eqBal t f x.ne.t x.ne.f) ?_)))))))
 by_cases c2:t=x.ne.t∧f=x.ne.f
 ·have hw : wr s x t f = (0, x, s) := (if_neg (by simpa using c1)).trans (if_pos c2)
  rw[decide_eq_true c2,e14,hw];refine yc rfl (Wp.ret ⟨by rw[c1],_,[],K10.mono (by omega),fun b hb=>hb.1,kx10,nl10,T10,fun _ h=>nomatch h⟩)
 rw[decide_eq_false c2,e14];refine y9 rfl (Wp.obind (y3 kv10 rfl) (Wp.obind (z8 _ _) (Wp.obind (z6 _ _ _) (Wp.obind (z6 _ _ _) (Wp.obind (y3 kx10 (show (z13f db x)[0+3+0]? =some (.int .i64 x.ne.c) from rfl)) (Wp.obind (z5 _ _) (Wp.lett ?_)))))))
 by_cases c3:x.ne.c≥4611686018427387904
 ·have hw : wr s x t f = (5, x, s) := (if_neg (by simpa using c1)).trans ((if_neg c2).trans (if_pos c3))
  rw[hw];exact yc (decide_eq_true c3) (Wp.ret ⟨rfl,_,[],K10.mono (by omega),fun b hb=>hb.1,kx10,nl10,T10,fun _ h=>nomatch h⟩)
 have hyo:z17a (zca x t f):=⟨by show (1:Int)≤x.ne.c+1;omega,by show x.ne.c+1≤4611686018427387904;omega,hbo⟩;obtain⟨u,hu⟩:∃u,z2e (z10b (zca x t f))=u:=⟨_,rfl⟩;have hul:u.length=29:=by rw[←hu,za4,z13d]
 have hw:wr s x t f=if (z12a s (z1c x) (z1d x) u).1≠0 then ((z12a s (z1c x) (z1d x) u).1,{x with br:=(z12a s (z1c x) (z1d x) u).1},(z12a s (z1c x) (z1d x) u).2) else (0,newX x t f,(z12a s (z1c x) (z1d x) u).2):=by
  unfold wr;rw[if_neg (by simpa using c1),if_neg c2,if_neg c3,hu]
 rw[hw];refine y9 (decide_eq_false c3) (Wp.obind (y3 kv10 rfl) (Wp.obind (z8 _ _) (Wp.obind (z6 _ _ _) (Wp.obind (z6 _ _ _) (Wp.obind (y3 kx10 (show (z13f db x)[0+3+0]? =some (.int .i64 x.ne.c) from rfl)) (Wp.obind (z5 _ _) (yd (by omega) (by omega) (Wp.obind (RowH.ldAll kb10 rfl) (Wp.obind (a:=z3ca (zca x t f)) (by kernel_rfl) (y15 (Mem.nil [] h10) fun h37 M37=>?_))))))))));rw[z35 h10];refine y18 M37 rfl rfl rfl fun h39 M39=>y1e M39 rfl ?_;have t39:=M39.tch;have ky39:=M39.at0.1;have ly39:=M39.at0.2.1;have n39:=t39.1;have hx39:z10a 5 h39.ex=false:=by rw[t39.2.1,T10.2.1,hx];rfl
 have hfr:=eframe_w (n:=n) (d:=d) (h:=h39) hyo (by omega) hx39;rw[hu] at hfr;refine Wp.callN hfr (Wp.obind (zd0 _ _) (Wp.obind (z16 _) (Wp.obind (zcf _ _ _) (Wp.obind (z5 _ _) (y15 M39 fun h49 M49=>?_)))));rw[z35 h39];refine y18 M49 rfl rfl rfl fun h51 M51=>Wp.lett (y9 (ze6 rfl) ?_);have t51:=M51.tch;have kt51:=M51.at0.1;have lt51:=M51.at0.2.1;have n51:=t51.1;have kv51:=kv10.tch t51 (by omega) (fun h=>nomatch h);have kx51:=kx10.tch t51 (by omega) (fun h=>nomatch h);refine Wp.obind (y3 kv51 rfl) (Wp.callN (place_w (n:=n) (d:=d+4) kx51 hf) (Wp.obind (zd0 _ _) (Wp.obind (z5 _ _) (Wp.obind (zcf _ _ _) (Wp.obind (z13 _) (y15 M51 fun h65 M65=>y15 M65 fun h67 M67=>?_))))));have l65:=M65.at0.2.1;rw[z35 h51,z35 h65];refine Wp.sa1 M67 rfl rfl rfl fun h69 M69=>y18 M69 rfl rfl rfl fun h71 M71=>Wp.obind (a:=[.fn 34 [] [.ptr h65.next 0,.ptr h.next 0,.ptr h51.next 0],.fn 37 [] [.ptr h.next 0,.ptr h51.next 0,.ptr h39.next 0],.fn 38 [] [.ptr h.next 0,.ptr h51.next 0]]) (by kernel_rfl) (y15 M71 fun h75 M75=>?_);rw[z35 h71];refine y18 M75 rfl rfl rfl fun h77 M77=>y1e M77 rfl (y7 fun k83 e83=>?_);have t77:=M77.tch;have n77:=t77.1;have kr77:=M77.at1.1;have lr77:=M77.at1.2.1;have kf77:=(Mem.at (xs:=[_,_]) M77).1;have lf77:=(Mem.at (xs:=[_,_]) M77).2.1;have kt77:=(Mem.at (xs:=[_,_,_]) M77).1;have lt77:=(Mem.at (xs:=[_,_,_]) M77).2.1;have ky77:=(Mem.at (xs:=[_,_,_,_]) M77).1;have ly77:=(Mem.at (xs:=[_,_,_,_]) M77).2.1;have kv77:=kv10.tch t77 (by omega) (fun h=>nomatch h);have kx77:=kx10.tch t77 (by omega) (fun h=>nomatch h);have T77:=T10.trans t77;obtain⟨lo7,hlo7⟩:∃lo7:Nat→Prop,lo7=fun b=>lo b∧(b<h.next∨h77.next≤b):=⟨_,rfl⟩;have K77:At lo7 h77 db s B:=by rw[hlo7];exact K.part T77 (fun _ h=>nomatch h)
 have L7:z370 lo lo7:=fun b hb=>by rw[hlo7] at hb;exact hb.1
 have new7:∀b,h.next≤b→b<h77.next→¬lo7 b:=fun b h1 h2 hh=>by
  rw[hlo7] at hh
  rcases hh.2 with h3|h3<;>omega
 have nx7:¬lo7 xb:=fun hh=>hxl (L7 _ hh);have hg:=place01 hf;have g51:h10.next≤h51.next:=n51;have g65:h51.next<h65.next:=l65;have C7:Clo lo7 h77 xb h.next h51.next h65.next h39.next db x (z1c x) (z1d x) u:=⟨kx77,kv77,kf77,kr77,kt77,⟨by omega,nx7⟩,⟨by omega,new7 _ (by omega) (by omega)⟩,⟨lf77,new7 _ (by omega) lf77⟩,⟨lr77,new7 _ (by omega) lr77⟩,⟨lt77,new7 _ (by omega) lt77⟩⟩;have hny:¬lo7 h10.next:=new7 _ (by omega) ly77;obtain⟨m,hm⟩:∃m,n=m+1+1+1+1:=⟨n - 4,by omega⟩
 -- the first step
 obtain⟨lo8,h8,S8,e8,K8,L8,t8,hS8⟩:=wr1_w (d:=d+1) hn K77 (by omega) C7 hg;have n8:=t8.1;have C8:=C7.tch t8 hS8 L8;have ky8:=ky77.tch t8 ly77 (fun hm=>hny (hS8 _ hm));have T8:Tch (xb::S8) h h8:=(T77.mono fun _ h=>nomatch h).trans (t8.mono fun b hb=>.inl (List.mem_cons_of_mem _ hb))
 have fin:∀(H:AHeap) (lo':Nat→Prop) (S:List Nat) (e:Int) (x':BoxS) (s':DS) (b:Nat),Tch (xb::S) h H→(∀b∈S,lo b)→At lo' H db s' (B+40)→z370 lo7 lo'→RowH H xb z23f (z13f db x')→(fun r h'=>r=ARes.ret (.int .i64 e)∧∃lo' S,At lo' h' db s' (B+40)∧z370 lo lo'∧RowH h' xb z23f (z13f db x')∧¬lo' xb∧Tch S h h'∧∀b∈S,lo b∨b=xb) (.ret (.int .i64 e)) H:=fun H lo' S e x' s' _ T hS K' L' k'=>
  ⟨rfl, lo', xb :: S, K', fun b hb => L7 _ (L' _ hb), k', fun hh => nx7 (L' _ hh), T, fun b hb => by
   rcases List.mem_cons.1 hb with rfl|hb
   ·exact .inr rfl
   ·exact .inl (hS b hb)⟩
 rw[show z4d (world n (d+5)) (.ptr h.next 0) [.fn 34 [] [.ptr h65.next 0,.ptr h.next 0,.ptr h51.next 0],.fn 37 [] [.ptr h.next 0,.ptr h51.next 0,.ptr h39.next 0],.fn 38 [] [.ptr h.next 0,.ptr h51.next 0]] k83 n 0 h77=z4d (world n (d+5)) (.ptr h.next 0) [.fn 34 [] [.ptr h65.next 0,.ptr h.next 0,.ptr h51.next 0],.fn 37 [] [.ptr h.next 0,.ptr h51.next 0,.ptr h39.next 0],.fn 38 [] [.ptr h.next 0,.ptr h51.next 0]] k83 (m+1+1+1+1) ((0:Nat):Int) h77 from by rw[←hm];rfl];refine wstep (h1:=h8) (e:=(z17f s (z1c x) (z1d x)).1) (x:=x) (by decide) (by kernel_rfl) kv77 ((z365 (by kernel_rfl)).trans e8) C8.kv C8.lv.1 C8.kx (by omega) (fun z1 H2 kx2 u2 m2=>?_) (fun z1 H2 kx2 u2 m2=>?_)
 case refine_2=>
  have hs:z12a s (z1c x) (z1d x) u=z17f s (z1c x) (z1d x):=if_pos z1;rw[hs,if_pos z1];exact fin H2 lo8 S8 _ _ _ 0 (T8.trans (u2.mono fun b hb=>.inl (by rw[List.mem_singleton.1 hb];exact List.mem_cons_self ..))) (fun b hb=>L7 _ (hS8 b hb)) ((K8.tch u2 fun b hb=>.inl (by rw[List.mem_singleton.1 hb];exact C8.lx.2)).mono (by omega)) L8 kx2
 -- the second
 have hx0:({x with br:=0}:BoxS)=x:=by
  obtain⟨a,b,c,e,g⟩:=x;have:g=0:=hbr;subst this;rfl
 rw[hx0] at kx2
 have C9:Clo lo8 H2 xb h.next h51.next h65.next h39.next db x (z1c x) (z1d x) u:=by
  have m1:∀{a:Nat},h.next≤a→a ∉ [xb]:=fun h h2=>by have:=List.mem_singleton.1 h2;omega
  exact⟨kx2,C8.kv.tch u2 C8.lv.1 (m1 (by omega)),C8.kf.tch u2 C8.lf.1 (m1 (by omega)),C8.kr.tch u2 C8.lr.1 (m1 (by omega)),C8.kt.tch u2 C8.lt.1 (m1 (by omega)),⟨by rw[m2];exact C8.lx.1,C8.lx.2⟩,⟨by rw[m2];exact C8.lv.1,C8.lv.2⟩,⟨by rw[m2];exact C8.lf.1,C8.lf.2⟩,⟨by rw[m2];exact C8.lr.1,C8.lr.2⟩,⟨by rw[m2];exact C8.lt.1,C8.lt.2⟩⟩
 have K9:=K8.tch u2 fun b hb=>.inl (by rw[List.mem_singleton.1 hb];exact C8.lx.2);have ky9:=ky8.tch u2 (by omega) (fun h=>by have:=List.mem_singleton.1 h;omega);have T9:Tch (xb::S8) h H2:=T8.trans (u2.mono fun b hb=>.inl (by rw[List.mem_singleton.1 hb];exact List.mem_cons_self ..));obtain⟨hA,SA,eA,KA,tA,hSA⟩:=wr2_w (d:=d+1) hn K9 (by omega) C9;have nA:=tA.1;have CA:=C9.tch tA hSA (fun _ h=>h);have kyA:=ky9.tch tA (by omega) (fun hm=>hny (L8 _ (hSA _ hm)))
 have TA:Tch (xb::(S8++SA)) h hA:=(T9.mono fun b hb=>.inl (by
  rcases List.mem_cons.1 hb with rfl|hb
  ·exact List.mem_cons_self ..
  ·exact List.mem_cons_of_mem _ (List.mem_append_left _ hb))).trans (tA.mono fun b hb=>.inl (List.mem_cons_of_mem _ (List.mem_append_right _ hb)))
 have hSS:∀b∈S8++SA,lo b:=fun b hb=>(List.mem_append.1 hb).elim (fun h=>L7 _ (hS8 b h)) fun h=>L7 _ (L8 _ (hSA b h));refine wstep (i:=1) (h1:=hA) (e:=z121 (z17f s (z1c x) (z1d x)).2 (z1c x) (chA u)) (x:=x) (by decide) (by kernel_rfl) C9.kv ((z365 (by kernel_rfl)).trans eA) CA.kv CA.lv.1 CA.kx (by omega) (fun z2 H3 kx3 u3 m3=>?_) (fun z2 H3 kx3 u3 m3=>?_)
 case refine_2=>
  have hs:z12a s (z1c x) (z1d x) u=(z121 (z17f s (z1c x) (z1d x)).2 (z1c x) (chA u),z15d (z17f s (z1c x) (z1d x)).2 (z1c x) (chA u)):=(if_neg (by simpa using z1)).trans (if_pos z2);rw[hs,if_pos z2];exact fin H3 lo8 (S8++SA) _ _ _ 0 (TA.trans (u3.mono fun b hb=>.inl (by rw[List.mem_singleton.1 hb];exact List.mem_cons_self ..))) hSS ((KA.tch u3 fun b hb=>.inl (by rw[List.mem_singleton.1 hb];exact CA.lx.2)).mono (by omega)) L8 kx3
 -- the third
 rw[hx0] at kx3
 have CB:Clo lo8 H3 xb h.next h51.next h65.next h39.next db x (z1c x) (z1d x) u:=by
  have m1:∀{a:Nat},h.next≤a→a ∉ [xb]:=fun h h2=>by have:=List.mem_singleton.1 h2;omega
  exact⟨kx3,CA.kv.tch u3 CA.lv.1 (m1 (by omega)),CA.kf.tch u3 CA.lf.1 (m1 (by omega)),CA.kr.tch u3 CA.lr.1 (m1 (by omega)),CA.kt.tch u3 CA.lt.1 (m1 (by omega)),⟨by rw[m3];exact CA.lx.1,CA.lx.2⟩,⟨by rw[m3];exact CA.lv.1,CA.lv.2⟩,⟨by rw[m3];exact CA.lf.1,CA.lf.2⟩,⟨by rw[m3];exact CA.lr.1,CA.lr.2⟩,⟨by rw[m3];exact CA.lt.1,CA.lt.2⟩⟩
 have KB:=KA.tch u3 fun b hb=>.inl (by rw[List.mem_singleton.1 hb];exact CA.lx.2);have kyB:=kyA.tch u3 (by omega) (fun h=>by have:=List.mem_singleton.1 h;omega);have TB:Tch (xb::(S8++SA)) h H3:=TA.trans (u3.mono fun b hb=>.inl (by rw[List.mem_singleton.1 hb];exact List.mem_cons_self ..));obtain⟨hC,SC,eC,KC,tC,hSC⟩:=wr3_w (d:=d+1) hn KB (by omega) CB;have nC:=tC.1;have CC:=CB.tch tC hSC (fun _ h=>h);have kyC:=kyB.tch tC (by omega) (fun hm=>hny (L8 _ (hSC _ hm)))
 have TC:Tch (xb::(S8++SA++SC)) h hC:=(TB.mono fun b hb=>.inl (by
  rcases List.mem_cons.1 hb with rfl|hb
  ·exact List.mem_cons_self ..
  ·exact List.mem_cons_of_mem _ (List.mem_append_left _ hb))).trans (tC.mono fun b hb=>.inl (List.mem_cons_of_mem _ (List.mem_append_right _ hb)))
 have hSS2:∀b∈S8++SA++SC,lo b:=fun b hb=>(List.mem_append.1 hb).elim (hSS b) fun h=>L7 _ (L8 _ (hSC b h));have hs3:z12a s (z1c x) (z1d x) u=(zd7 (z15d (z17f s (z1c x) (z1d x)).2 (z1c x) (chA u)).p (z1c x),z1fb (z15d (z17f s (z1c x) (z1d x)).2 (z1c x) (chA u)) (z1c x)):=(if_neg (by simpa using z1)).trans (if_neg (by simpa using z2));rw[hs3];refine wstep (i:=2) (h1:=hC) (e:=zd7 (z15d (z17f s (z1c x) (z1d x)).2 (z1c x) (chA u)).p (z1c x)) (x:=x) (by decide) (by kernel_rfl) CB.kv ((z365 (by kernel_rfl)).trans eC) CC.kv CC.lv.1 CC.kx (by omega) (fun z3 H4 kx4' u4 m4=>?_) (fun z3 H4 kx4' u4 m4=>?_)
 case refine_2=>
  rw[if_pos z3];exact fin H4 lo8 (S8++SA++SC) _ _ _ 0 (TC.trans (u4.mono fun b hb=>.inl (by rw[List.mem_singleton.1 hb];exact List.mem_cons_self ..))) hSS2 ((KC.tch u4 fun b hb=>.inl (by rw[List.mem_singleton.1 hb];exact CC.lx.2)).mono (by omega)) L8 kx4'
 -- all done
 rw[if_neg (by simpa using z3)];rw[hx0] at kx4';have m1:∀{a:Nat},h.next≤a→a ∉ [xb]:=fun h h2=>by have:=List.mem_singleton.1 h2;omega
 have kvD:=CC.kv.tch u4 CC.lv.1 (m1 (by omega));have kfD:=CC.kf.tch u4 CC.lf.1 (m1 (by omega));have krD:=CC.kr.tch u4 CC.lr.1 (m1 (by omega));have kyD:=kyC.tch u4 (by omega) (m1 (by omega));have KD:=KC.tch u4 fun b hb=>.inl (by rw[List.mem_singleton.1 hb];exact CC.lx.2);have TD:Tch (xb::(S8++SA++SC)) h H4:=TC.trans (u4.mono fun b hb=>.inl (by rw[List.mem_singleton.1 hb];exact List.mem_cons_self ..));have lxD:xb<H4.next:=by rw[m4];exact CC.lx.1
 rw[ze8];unfold z82;refine Wp.lett (y9 rfl ?_);rw[e83]
 have hM:0≤(if z1d x=true then (0:Int) else if z1c x=0 then x.m0 else x.m1)∧(if z1d x=true then (0:Int) else if z1c x=0 then x.m0 else x.m1)<1000000:=by
  split
  ·omega
  ·split
   ·exact hm0
   ·exact hm1
 obtain⟨g,hgn,hg2⟩:∃g:Nat,z1c x=(g:Int)∧(g=0∨g=1):=by
  rcases hg with h|h
  ·exact⟨0,h,.inl rfl⟩
  ·exact⟨1,h,.inr rfl⟩
 have hix:∀b,z17b 2 1 (.ptr b (0+1)) (z1c x)=some (.ptr b (1+g)):=fun b=>by
  rw[hgn]
  rcases hg2 with rfl|rfl<;>rfl
 refine Wp.obind (y3 krD rfl) (Wp.obind (z13 _) (y7 fun k89 e89=>?_))
 have last:∀(H5:AHeap) (x5:BoxS),RowH H5 xb z23f (z13f db x5)→Tch [xb] H4 H5→H5.next=H4.next→x5=(if z1d x=true then z23d x g 0 else x)→Wp (k89 H5) fun r h'=>r=.ret (.int .i64 0)∧∃lo' S,At lo' h' db (z1fb (z15d (z17f s (z1c x) (z1d x)).2 (z1c x) (chA u)) (z1c x)) (B+40)∧z370 lo lo'∧RowH h' xb z23f (z13f db (newX x t f))∧¬lo' xb∧Tch S h h'∧∀b∈S,lo b∨b=xb:=fun H5 x5 kx5 t5 n5 hx5=>by
  have kv5:=kvD.tch t5 (by omega) (m1 (by omega));have kf5:=kfD.tch t5 (by omega) (m1 (by omega));have ky5:=kyD.tch t5 (by omega) (m1 (by omega))
  have hcell:(z13f db x5)[1+g]? =some (.int .i64 (if z1d x=true then (0:Int) else if z1c x=0 then x.m0 else x.m1)):=by
   rw[hx5,hgn]
   rcases hg2 with rfl|rfl
   ·cases z1d x<;>rfl
   ·cases z1d x<;>rfl
  rw[e89];refine Wp.obind (y3 kv5 rfl) (Wp.obind (y3 kf5 rfl) (Wp.obind (z5 _ _) (Wp.obind (z8 _ _) (Wp.obind (z6 _ _ _) (Wp.obind (hix xb) (Wp.obind (y3 kx5 hcell) (Wp.obind (z5 _ _) (yd (by omega) (by omega) (Wp.obind (z8 _ _) (Wp.obind (z6 _ _ _) (Wp.obind (hix xb) ?_)))))))))));refine Wp.st1 kx5 (show 1+g<8 by omega) rfl fun h6 kx6 t6 n6=>?_;have kv6:=kv5.tch t6 (by omega) (m1 (by omega));have kf6:=kf5.tch t6 (by omega) (m1 (by omega));have ky6:=ky5.tch t6 (by omega) (m1 (by omega))
  have kx6':RowH h6 xb z23f (z13f db (z23d x5 g ((if z1d x=true then (0:Int) else if z1c x=0 then x.m0 else x.m1)+1))):=by
   unfold z23d
   rcases hg2 with rfl|rfl
   ·exact kx6
   ·exact kx6
  refine Wp.obind (y3 kv6 rfl) (Wp.obind (y3 kv6 rfl) (Wp.obind (RowH.ldAll ky6 rfl) (Wp.obind (y3 kf6 rfl) (Wp.obind (z5 _ _) (Wp.obind (z8 _ _) (Wp.obind (z6 _ _ _) ?_))))));refine y32 kx6' rfl (show 0+3+3≤8 by decide) rfl fun h7 kx7 t7 n7=>?_;have kv7:=kv6.tch t7 (by omega) (m1 (by omega));have kf7:=kf6.tch t7 (by omega) (m1 (by omega));have r1:z6e Try.prog h7 TI3 (.ptr h51.next 0) (.int .i64 (z1c x))=true:=z83 (by kernel_rfl) (y3 kf7 rfl);have r2:z6e Try.prog h7 TPB (.ptr h.next 0) (.ptr xb 0)=true:=z83 (by kernel_rfl) (y3 kv7 rfl);refine Wp.chk (by rw[r1,r2];rfl) (Wp.obind (z8 _ _) (Wp.obind (z6 _ _ _) (Wp.st1 kx7 (show 0+6<8 by decide) rfl fun h8' kx8 t8' n8'=>?_)))
  have hfin:z13f db (newX x t f)=z13f db {z23d x5 g ((if z1d x=true then (0:Int) else if z1c x=0 then x.m0 else x.m1)+1) with ne:=zca x t f,file:=z1c x}:=by
   unfold newX z13f;rw[hx5,hgn,Int.toNat_natCast]
   rcases hg2 with rfl|rfl
   ·cases z1d x<;>(simp only[z23d];simp[hbr])
   ·cases z1d x<;>(simp only[z23d];simp[hbr])
  refine Wp.ret ⟨rfl,lo8,xb::(S8++SA++SC),?_,fun b hb=>L7 _ (L8 _ hb),?_,CC.lx.2,?_,fun b hb=>?_⟩
  ·exact((((KD.tch t5 fun b hb=>.inl (by rw[List.mem_singleton.1 hb];exact CC.lx.2)).tch t6 fun b hb=>.inl (by rw[List.mem_singleton.1 hb];exact CC.lx.2)).tch t7 fun b hb=>.inl (by rw[List.mem_singleton.1 hb];exact CC.lx.2)).tch t8' fun b hb=>.inl (by rw[List.mem_singleton.1 hb];exact CC.lx.2)).mono (by omega)
  ·rw [hfin]
   exact kx8
  ·have ms : ∀ b ∈ [xb], b ∈ xb :: (S8 ++ SA ++ SC) ∨ h.next ≤ b := fun b hb => .inl (by rw [List.mem_singleton.1 hb]; exact List.mem_cons_self ..)
   exact(((TD.trans' t5 ms).trans' t6 ms).trans' t7 ms).trans' t8' ms
  ·rcases List.mem_cons.1 hb with rfl | hb
   ·exact .inr rfl
   ·exact .inl (hSS2 b hb)
 cases hpn:z1d x with
 |true=>
  refine yc rfl (Wp.obind (y3 kvD rfl) (Wp.obind (y3 kfD rfl) (Wp.obind (z5 _ _) (Wp.obind (z8 _ _) (Wp.obind (z6 _ _ _) (Wp.obind (hix xb) (Wp.st1 kx4' (show 1+g<8 by omega) rfl fun h5 kx5 t5 n5=>?_)))))));rw[hpn] at last;refine last h5 (z23d x g 0) ?_ t5 n5 (if_pos rfl).symm;unfold z23d
  rcases hg2 with rfl|rfl
  ·exact kx5
  ·exact kx5
 |false=>
  rw[hpn] at last;exact y9 rfl (last H4 x kx4' (Tch.refl _ _) rfl (if_neg (by decide)).symm)
end
structure FileIs (y:FileS) (E:List Ent):Prop where
 loose:y.loose=[]
 same:y.sure=y.seen
 u:y.seen.u=z128 E
 th:y.seen.th=false→E=[]
def tornL(fr:Bool)(u:zf):List (List Chg):=if fr=true then [[],[chR],[chR,chA u],[chA u]] else [[],[chA u]]
structure TornF (y:FileS) (E:List Ent) (fr:Bool) (u:zf):Prop where
 l:y.loose∈tornL fr u
 su:y.sure.u=z128 E
 th:y.sure.th=false→E=[]
 new:fr=true→y.loose=[chA u]→E=[]
theorem FileIs.torn{y:FileS}{E:List Ent}(k:FileIs y E)(fr:Bool)(u:zf):TornF y E fr u:=
 ⟨by rw[k.loose];unfold tornL;split<;>exact List.mem_cons_self ..,by rw[k.same];exact k.u,by rw[k.same];exact k.th,fun _ h=>by rw[k.loose] at h;cases h⟩
theorem fileB_one(e:Ent):z128 [e]=z2e (z10b e):=List.append_nil _
theorem zc8{α:Type}(f:Nat→α)(i:Nat)(x:α):upd f i x i=x:=if_pos rfl
theorem z92{α:Type}(f:Nat→α){i j:Nat}(x:α)(h:j≠i):upd f i x j=f j:=if_neg h
theorem z487{s:DS}{g:Nat}{E:List Ent}{fr:Bool}{e:Ent}(hg:g<2)(k:FileIs (s.fs g) E)(hsz:(z128 E).length <900000):
  (∀f,f≠g→(z12a s (g:Int) fr (z2e (z10b e))).2.fs f=s.fs f)∧
  ((z12a s (g:Int) fr (z2e (z10b e))).1=0→FileIs ((z12a s (g:Int) fr (z2e (z10b e))).2.fs g) ((if fr=true then [] else E)++[e]))∧
  ((z12a s (g:Int) fr (z2e (z10b e))).1≠0→(z12a s (g:Int) fr (z2e (z10b e))).1=40∧TornF ((z12a s (g:Int) fr (z2e (z10b e))).2.fs g) E fr (z2e (z10b e))):=by
 obtain⟨u,hu⟩:∃u,z2e (z10b e)=u:=⟨_,rfl⟩;have hul:u.length=29:=by rw[←hu,za4,z13d]
 have hone:z128 [e]=u:=by rw[fileB_one,hu]
 rw[hu]
 have ref0:∀p:Int,p≠0→zd7 p (g:Int)=0:=fun p hp=>by
  unfold zd7;rw[if_neg hp,if_pos (by omega)]
 have ref40:zd7 0 (g:Int)=40:=if_pos rfl
 -- behind the first step: the file as it is now
 have second:∀(s1:DS) (y:FileS) (F:List Ent),z17f s (g:Int) fr=(0,s1)→s1.fs g=y→(∀f,f≠g→s1.fs f=s.fs f)→y.seen.u=z128 F→(z128 F).length <900000→TornF y E fr u→TornF (zf9 y (chA u)) E fr u→F++[e]=(if fr=true then [] else E)++[e]→
   (∀f,f≠g→(z12a s (g:Int) fr u).2.fs f=s.fs f)∧((z12a s (g:Int) fr u).1=0→FileIs ((z12a s (g:Int) fr u).2.fs g) ((if fr=true then [] else E)++[e]))∧((z12a s (g:Int) fr u).1≠0→(z12a s (g:Int) fr u).1=40∧TornF ((z12a s (g:Int) fr u).2.fs g) E fr u):=by
  intro s1 y F h1 hy ho hF hFl hT hT2 hE
  have hw:z12a s (g:Int) fr u=if z121 s1 (g:Int) (chA u)≠0 then (z121 s1 (g:Int) (chA u),z15d s1 (g:Int) (chA u)) else (zd7 (z15d s1 (g:Int) (chA u)).p (g:Int),z1fb (z15d s1 (g:Int) (chA u)) (g:Int)):=by
   unfold z12a;rw[h1];exact if_neg (by simp)
  rw[hw]
  by_cases hp:s1.p=0
  ·have h40 : z121 s1 (g : Int) (chA u) = 40 := by
    rw[z1a9 (by rw[hp,ref40];decide),hp,ref40]
   rw[if_pos (by rw[h40];decide),z162 (by rw[h40];decide),h40];exact⟨ho,(fun h=>by cases h),fun _=>⟨rfl,by rw[hy];exact hT⟩⟩
  ·have hown : z2e6 (s1.fs g) (chA u) = 0 := by
    have h0:z2e6 (s1.fs g) (chA u)=if (1048576:Int) - ((s1.fs g).seen.u.length:Int)<(u.length:Int) then 8 else 0:=if_pos rfl
    rw[h0,hy,hF,if_neg (by omega)]
   have he:z121 s1 (g:Int) (chA u)=0:=(z15a (ref0 _ hp)).trans hown;have ha:=z23b (c:=chA u) (ref0 _ hp) hown;rw[if_neg (by rw[he];simp),ha];have oth:∀f,f≠g→(upd s1.fs g (zf9 (s1.fs g) (chA u))) f=s.fs f:=fun f hf=>by rw[z92 _ _ hf];exact ho f hf
   by_cases hp2:z60 s1.p=0
   ·have hs : z1fb ⟨upd s1.fs g (zf9 (s1.fs g) (chA u)), z60 s1.p, s1.ops + 1⟩ (g : Int) = ⟨upd s1.fs g (zf9 (s1.fs g) (chA u)), z60 s1.p, s1.ops + 1⟩ := by
     unfold z1fb;rw[if_neg (by show ¬zd7 (z60 s1.p) (g:Int)=0;rw[hp2,ref40];decide)]
    rw[hs];refine⟨oth,fun h=>?_,fun _=>⟨?_,?_⟩⟩
    ·have h : zd7 (z60 s1.p) (g : Int) = 0 := h
     rw[hp2,ref40] at h;cases h
    ·show zd7 (z60 s1.p) (g : Int) = 40
     rw[hp2,ref40]
    ·show TornF (upd s1.fs g (zf9 (s1.fs g) (chA u)) g) E fr u
     rw[zc8,hy];exact hT2
   ·have hs : z1fb ⟨upd s1.fs g (zf9 (s1.fs g) (chA u)), z60 s1.p, s1.ops + 1⟩ (g : Int) = ⟨upd (upd s1.fs g (zf9 (s1.fs g) (chA u))) g (z44b (upd s1.fs g (zf9 (s1.fs g) (chA u)) g)), z60 (z60 s1.p), s1.ops + 1 + 1⟩ := by
     unfold z1fb;rw[if_pos (show zd7 (z60 s1.p) (g:Int)=0 from ref0 _ hp2)];rfl
    rw[hs];refine⟨fun f hf=>?_,fun _=>?_,fun h=>absurd (show zd7 (z60 s1.p) (g:Int)=0 from ref0 _ hp2) h⟩
    ·show upd (upd s1.fs g (zf9 (s1.fs g) (chA u))) g (z44b (upd s1.fs g (zf9 (s1.fs g) (chA u)) g)) f = s.fs f
     rw[z92 _ _ hf];exact oth f hf
    ·show FileIs (upd (upd s1.fs g (zf9 (s1.fs g) (chA u))) g (z44b (upd s1.fs g (zf9 (s1.fs g) (chA u)) g)) g) _
     rw[zc8,zc8,hy, ←hE];refine⟨rfl,rfl,?_,fun h=>nomatch h⟩;show y.seen.u++u=_;rw[hF,fileB_app,hone]
 by_cases hc:(fr&&there s (g:Int))=true
 ·rw [Bool.and_eq_true] at hc
  obtain⟨hfr,hth⟩:=hc;have hth:(s.fs g).seen.th=true:=hth;subst hfr;have hs1:z17f s (g:Int) true=(z121 s (g:Int) chR,z15d s (g:Int) chR):=if_pos (show (true&&(s.fs g).seen.th)=true by rw[hth];rfl)
  by_cases hp:s.p=0
  ·have h40 : z121 s (g : Int) chR = 40 := by
    rw[z1a9 (by rw[hp,ref40];decide),hp,ref40]
   have hw:z12a s (g:Int) true u=(40,s):=by
    unfold z12a;rw[hs1,z162 (by rw[h40];decide),h40];exact if_pos (show (40:Int)≠0 by decide)
   rw[hw];exact⟨fun _ _=>rfl,(fun h=>by cases h),fun _=>⟨rfl,k.torn _ _⟩⟩
  ·have hown : z2e6 (s.fs g) chR = 0 := by
    unfold z2e6;rw[if_neg (by decide),if_neg (by rw[hth];decide),if_neg (fun h=>absurd h.1 (by decide))]
   have he:z121 s (g:Int) chR=0:=(z15a (ref0 _ hp)).trans hown;have ha:=z23b (c:=chR) (ref0 _ hp) hown;rw[ha,he] at hs1;refine second _ (zf9 (s.fs g) chR) [] hs1 (zc8 ..) (fun f hf=>z92 _ _ hf) rfl (by decide) ⟨?_,?_,?_,?_⟩ ⟨?_,?_,?_,?_⟩ rfl
   ·show (s.fs g).loose ++ [chR] ∈ _
    rw[k.loose];exact List.mem_cons_of_mem _ (List.mem_cons_self ..)
   ·show (s.fs g).sure.u = _
    rw[k.same];exact k.u
   ·show (s.fs g).sure.th = false → _
    rw[k.same];exact k.th
   ·show _ → (s.fs g).loose ++ [chR] = _ → _
    rw[k.loose];intro _ h
    injection h with h _
    cases h
   ·show (s.fs g).loose ++ [chR] ++ [chA u] ∈ _
    rw[k.loose];exact List.mem_cons_of_mem _ (List.mem_cons_of_mem _ (List.mem_cons_self ..))
   ·show (s.fs g).sure.u = _
    rw[k.same];exact k.u
   ·show (s.fs g).sure.th = false → _
    rw[k.same];exact k.th
   ·show _ → (s.fs g).loose ++ [chR] ++ [chA u] = _ → _
    rw[k.loose];intro _ h
    injection h with _ h
    cases h
 ·have hs1 : z17f s (g : Int) fr = (0, s) := if_neg hc
  have hnew:fr=true→E=[]:=fun hfr=>by
   refine k.th ?_;rw[hfr,Bool.true_and] at hc;exact Bool.eq_false_iff.2 hc
  refine second s (s.fs g) E hs1 rfl (fun _ _=>rfl) k.u hsz (k.torn _ _) ⟨?_,?_,?_,fun h _=>hnew h⟩ ?_
  ·show (s.fs g).loose ++ [chA u] ∈ _
   rw[k.loose];unfold tornL
   split
   ·exact List.mem_cons_of_mem _ (List.mem_cons_of_mem _ (List.mem_cons_of_mem _ (List.mem_cons_self ..)))
   ·exact List.mem_cons_of_mem _ (List.mem_cons_self ..)
  ·show (s.fs g).sure.u = _
   rw[k.same];exact k.u
  ·show (s.fs g).sure.th = false → _
   rw[k.same];exact k.th
  ·split
   ·rename_i hfr
    rw[hnew hfr]
   ·rfl
theorem z218{f:Int}:∀(l:List Ent) (a:Ent×Int),(∀e∈l,e.c≤a.1.c)→z3b f l a=a
 |[],_,_=>rfl
 |e::l,a,h=>by
  show z3b f l (if e.c>a.1.c then (e,f) else a)=a;rw[if_neg (by have:=h e (List.mem_cons_self ..);omega)];exact z218 l a fun x hx=>h x (List.mem_cons_of_mem _ hx)
theorem z4a2{f K:Int}:∀(l:List Ent) (a:Ent×Int),(∀e∈l,e.c<K)→a.1.c<K→(z3b f l a).1.c <K
 |[],_,_,h=>h
 |e::l,a,h,ha=>by
  show (z3b f l (if e.c>a.1.c then (e,f) else a)).1.c <K;refine z4a2 l _ (fun x hx=>h x (List.mem_cons_of_mem _ hx)) ?_
  split
  ·exact h e (List.mem_cons_self ..)
  ·exact ha
theorem z296{f:Int}{m:Ent}:∀(l:List Ent) (a:Ent×Int),m∈l→a.1.c<m.c→(∀e∈l,e.c≤m.c∧(e.c=m.c→e=m))→z3b f l a=(m,f)
 |[],_,h,_,_=>nomatch h
 |e::l,a,hm,ha,h=>by
  show z3b f l (if e.c>a.1.c then (e,f) else a)=(m,f);obtain⟨h1,h2⟩:=h e (List.mem_cons_self ..);have hr:=fun x hx=>h x (List.mem_cons_of_mem _ hx)
  by_cases he:e.c=m.c
  ·have := h2 he
   subst this;rw[if_pos ha];exact z218 l _ fun x hx=>(hr x hx).1
  ·have hml : m ∈ l := by
    rcases List.mem_cons.1 hm with h|h
    ·subst h
     exact absurd rfl he
    ·exact h
   split
   ·exact z296 l _ hml (show e.c<m.c by omega) hr
   ·exact z296 l _ hml ha hr
structure Ord (E:Nat→List Ent) (m:Ent) (g:Nat):Prop where
 g01:g=0∨g=1
 ok:(m=ne0∧E 0=[]∧E 1=[]∧g=0)∨(z17a m∧m∈E g∧(∀e∈E g,z17a e∧e.c≤m.c∧(e.c=m.c→e=m))∧∀e∈E (1 - g),z17a e∧e.c<m.c)
theorem Ord.c0{E:Nat→List Ent}{m:Ent}{g:Nat}(o:Ord E m g):0≤m.c:=by
 rcases o.ok with⟨rfl,_⟩|⟨h,_⟩
 ·decide
 ·have := h.1
  omega
theorem Ord.pick{E:Nat→List Ent}{m:Ent}{g:Nat}(o:Ord E m g):z3b 1 (E 1) (z3b 0 (E 0) (ne0,0))=(m,(g:Int)):=by
 rcases o.ok with⟨rfl,h0,h1,rfl⟩|⟨hm,hin,hg,ho⟩
 ·rw [h0, h1]
  rfl
 ·have := hm.1
  rcases o.g01 with rfl|rfl
  ·rw [z296 (E 0) (ne0, 0) hin (show (0 : Int) < m.c by omega) fun e he => (hg e he).2]
   exact z218 _ _ fun e he=>by have:=(ho e he).2;show e.c≤m.c;omega
  ·exact z296 (E 1) _ hin (z4a2 (E 0) _ (fun e he=>(ho e he).2) (show (0:Int)<m.c by omega)) fun e he=>(hg e he).2
theorem Ord.ents{E:Nat→List Ent}{m:Ent}{g:Nat}(o:Ord E m g){f:Nat}(hf:f=0∨f=1):∀e∈E f,z17a e∧e.c≤m.c:=by
 intro e he
 rcases o.ok with⟨rfl,h0,h1,rfl⟩|⟨hm,hin,hg,ho⟩
 ·rcases hf with rfl | rfl
  ·rw [h0] at he
   cases he
  ·rw [h1] at he
   cases he
 ·by_cases hfg : f = g
  ·subst hfg
   exact⟨(hg e he).1,(hg e he).2.1⟩
  ·have : f = 1 - g := by
    rcases hf with rfl|rfl<;>rcases o.g01 with h|h<;>omega
   subst this;have:=ho e he;exact⟨this.1,by omega⟩
structure VInv (s:DS) (x:BoxS) (E:Nat→List Ent) (g:Nat):Prop where
 o:Ord E x.ne g
 fi:∀f,f=0∨f=1→FileIs (s.fs f) (E f)
 file:x.file=(g:Int)
 m0:x.m0=((E 0).length:Int)
 m1:x.m1=((E 1).length:Int)
 br:x.br=0
def Place(m:Ent)(g g':Nat)(fr:Bool):Prop:=(fr=false∧g'=g∧m.c≠0)∨(fr=true∧((m.c=0∧g'=0)∨(m.c≠0∧g'=1 - g)))
def Broken(s:DS)(E:Nat→List Ent)(m:Ent)(g:Nat)(y:Ent):Prop:=∃g' fr,(g'=0∨g'=1)∧Place m g g' fr∧(∀f,f=0∨f=1→f≠g'→FileIs (s.fs f) (E f))∧TornF (s.fs g') (E g') fr (z2e (z10b y))
theorem ord_new{E:Nat→List Ent}{m y:Ent}{g g':Nat}{fr:Bool}(o:Ord E m g)(hy:z17a y)(hc:y.c=m.c+1)(hg':g'=0∨g'=1)(hp:Place m g g' fr):Ord (upd E g' ((if fr=true then [] else E g')++[y])) y g':=by
 have hen:∀f,(f=0∨f=1)→∀e∈E f,z17a e∧e.c<y.c:=fun f hf e he=>by
  have:=o.ents hf e he;exact⟨this.1,by omega⟩
 refine⟨hg',.inr ⟨hy,?_,fun e he=>?_,fun e he=>?_⟩⟩
 ·rw [zc8]
  exact List.mem_append_right _ (List.mem_singleton.2 rfl)
 ·rw [zc8] at he
  rcases List.mem_append.1 he with he|he
  ·split at he
   ·cases he
   ·have := hen g' hg' e he
    exact⟨this.1,by omega,fun h=>by omega⟩
  ·rw [List.mem_singleton.1 he]
   exact⟨hy,Int.le_refl _,fun _=>rfl⟩
 ·rw [z92 _ _ (by rcases hg' with rfl | rfl <;> decide)] at he
  exact hen (1 - g') (by rcases hg' with rfl|rfl<;>decide) e he
theorem z41f{x:BoxS}{g:Nat}(hg:g=0∨g=1)(hf:x.file=(g:Int)):∃g':Nat,z1c x=(g':Int)∧(g'=0∨g'=1)∧Place x.ne g g' (z1d x):=by
 unfold z1c z1d Place
 by_cases h1:x.ne.c=0
 ·rw [if_pos h1, if_pos h1]
  exact⟨0,rfl,.inl rfl,.inr ⟨rfl,.inl ⟨h1,rfl⟩⟩⟩
 rw[if_neg h1,if_neg h1]
 by_cases h2:(if x.file=0 then x.m0 else x.m1)<8
 ·rw [if_pos h2, if_pos h2]
  exact⟨g,hf,hg,.inl ⟨rfl,rfl,h1⟩⟩
 rw[if_neg h2,if_neg h2,hf]
 rcases hg with rfl|rfl
 ·exact⟨1,rfl,.inr rfl,.inr ⟨rfl,.inr ⟨h1,rfl⟩⟩⟩
 ·exact⟨0,rfl,.inl rfl,.inr ⟨rfl,.inr ⟨h1,rfl⟩⟩⟩
section
variable {s:DS}{x:BoxS}{E:Nat→List Ent}{g:Nat}{t f:Int}
theorem wr_out(I:VInv s x E g)(hsz:∀f,f=0∨f=1→(z128 (E f)).length <900000):
  (((wr s x t f).1=2∨(wr s x t f).1=5)∧(wr s x t f).2=(x,s))∨(wr s x t f=(0,x,s)∧t=x.ne.t∧f=x.ne.f)∨
  (z2f4 t f x.ne.t x.ne.f=true∧z192 t f∧(((wr s x t f).1=0∧∃E' g',VInv (wr s x t f).2.2 (wr s x t f).2.1 E' g'∧(wr s x t f).2.1.ne=zca x t f)∨((wr s x t f).1=40∧z17a (zca x t f)∧Broken (wr s x t f).2.2 E x.ne g (zca x t f)))):=by
 have hc0:=I.o.c0
 by_cases c1:z2f2 x t f=0
 case neg=>
  have hw:wr s x t f=(z2f2 x t f,x,s):=if_pos c1;rw[hw];refine .inl ⟨?_,rfl⟩;show z2f2 x t f=2∨z2f2 x t f=5;unfold z2f2 at c1 ⊢;rw[if_neg (by rw[I.br];simp)] at c1 ⊢
  split at c1
  ·rename_i h1
   rw[if_pos h1]
   split at c1
   ·exact absurd rfl c1
   ·rename_i h2
    rw[if_neg h2];exact .inr rfl
  ·rename_i h1
   rw[if_neg h1];exact .inl rfl
 obtain⟨_,hbo,hmay⟩:=z49a c1
 by_cases c2:t=x.ne.t∧f=x.ne.f
 ·exact .inr (.inl ⟨(if_neg (by simpa using c1)).trans (if_pos c2),c2.1,c2.2⟩)
 by_cases c3:x.ne.c≥4611686018427387904
 ·have hw : wr s x t f = (5, x, s) := (if_neg (by simpa using c1)).trans ((if_neg c2).trans (if_pos c3))
  rw[hw];exact .inl ⟨.inr rfl,rfl⟩
 have hyo:z17a (zca x t f):=⟨by show (1:Int)≤x.ne.c+1;omega,by show x.ne.c+1≤4611686018427387904;omega,hbo⟩;obtain⟨g',hpf,hg',hpl⟩:=z41f I.o.g01 I.file
 have hw:wr s x t f=if (z12a s (z1c x) (z1d x) (z2e (z10b (zca x t f)))).1≠0 then ((z12a s (z1c x) (z1d x) (z2e (z10b (zca x t f)))).1,{x with br:=(z12a s (z1c x) (z1d x) (z2e (z10b (zca x t f)))).1},(z12a s (z1c x) (z1d x) (z2e (z10b (zca x t f)))).2) else (0,newX x t f,(z12a s (z1c x) (z1d x) (z2e (z10b (zca x t f)))).2):=by
  unfold wr;rw[if_neg (by simpa using c1),if_neg c2,if_neg c3]
 rw[hpf] at hw;obtain⟨o1,o2,o3⟩:=z487 (s:=s) (g:=g') (E:=E g') (fr:=z1d x) (e:=zca x t f) (by omega) (I.fi g' hg') (hsz g' hg');refine .inr (.inr ⟨hmay,hbo,?_⟩)
 by_cases c4:(z12a s (g':Int) (z1d x) (z2e (z10b (zca x t f)))).1=0
 ·rw [if_neg (by simpa using c4)] at hw
  rw[hw];refine .inl ⟨rfl,upd E g' ((if z1d x=true then [] else E g')++[zca x t f]),g',⟨?_,fun k hk=>?_,?_,?_,?_,rfl⟩,rfl⟩
  ·exact ord_new I.o hyo rfl hg' hpl
  ·by_cases hkg : k = g'
   ·rw [hkg, zc8]
    exact o2 c4
   ·rw [z92 _ _ hkg]
    show FileIs ((z12a s (g':Int) (z1d x) (z2e (z10b (zca x t f)))).2.fs k) _;rw[o1 k hkg];exact I.fi k hk
  ·exact hpf
  ·show (z23d x (z1c x).toNat ((if z1d x = true then 0 else if z1c x = 0 then x.m0 else x.m1) + 1)).m0 = _
   rw[hpf,Int.toNat_natCast];have h0:=I.m0
   rcases hg' with rfl|rfl
   ·rw [zc8]
    cases z1d x
    ·show x.m0 + 1 = _
     rw[h0]
     simp
    ·show (0 : Int) + 1 = _
     simp
   ·rw [z92 _ _ (by decide)]
    exact h0
  ·show (z23d x (z1c x).toNat ((if z1d x = true then 0 else if z1c x = 0 then x.m0 else x.m1) + 1)).m1 = _
   rw[hpf,Int.toNat_natCast];have h1:=I.m1
   rcases hg' with rfl|rfl
   ·rw [z92 _ _ (by decide)]
    exact h1
   ·rw [zc8]
    cases z1d x
    ·show x.m1 + 1 = _
     rw[h1]
     simp
    ·show (0 : Int) + 1 = _
     simp
 ·rw [if_pos c4] at hw
  rw[hw];obtain⟨h40,hT⟩:=o3 c4
  exact .inr ⟨h40,hyo,g',z1d x,hg',hpl,fun k hk hkg=>by
   show FileIs ((z12a s (g':Int) (z1d x) (z2e (z10b (zca x t f)))).2.fs k) _;rw[o1 k hkg];exact I.fi k hk,hT⟩
theorem z468{y:FileS}(hl:y.loose=[])(kept torn:Int):zbe y kept torn=y.sure:=by
 unfold zbe z1f3;rw[hl];have e0:min kept.toNat ([]:List Chg).length=0:=Nat.min_zero _;rw[e0];rfl
structure Behind (y:FileS) (E:List Ent) (tl:zf):Prop where
 loose:y.loose=[]
 same:y.sure=y.seen
 u:y.seen.u=z128 E++tl
 tlb:(z29 tl).2.2≠0
 th:y.seen.th=false→E=[]∧tl=[]
theorem z2bf{s:DS}{z:Nat}{E:List Ent}{tl:zf}(hz:z<2)(hp:s.p= -1)(hE:∀e∈E,z17a e)(k:Behind (s.fs z) E tl):
  z21 s (z:Int)=z128 E++tl∧z44 (z21 s (z:Int))=E∧z1ef s (z:Int) (g0 s z) (z0 s z)=0∧FileIs ((z8c s (z:Int) (g0 s z) (z0 s z)).fs z) E∧(∀f,f≠z→(z8c s (z:Int) (g0 s z) (z0 s z)).fs f=s.fs f)∧(z8c s (z:Int) (g0 s z) (z0 s z)).p= -1:=by
 have r0:∀p:Int,p= -1→zd7 p (z:Int)=0:=fun p h=>by
  unfold zd7;rw[if_neg (by omega),if_pos (by omega)]
 have hr:z21 s (z:Int)=z128 E++tl:=by
  unfold z21;rw[if_pos (r0 _ hp),Int.toNat_natCast]
  split
  ·exact k.u
  ·rename_i hth
   obtain⟨rfl,rfl⟩:=k.th (Bool.eq_false_iff.2 hth);rfl
 have hl:z44 (z21 s (z:Int))=E:=by
  rw[hr];exact z4b3 hE k.tlb
 have hlen:=z2cd E
 have hg:g0 s z=((29*E.length:Nat):Int):=by
  unfold g0;rw[hl]
 have hzz:z0 s z=((29*E.length+tl.length:Nat):Int):=by
  unfold z0;rw[hr,List.length_append,hlen]
 refine⟨hr,hl,?_⟩;unfold z1ef z8c
 by_cases ht:tl=[]
 ·have he : g0 s z = z0 s z := by rw [hg, hzz, ht]; rfl
  rw[if_pos he,if_pos he];refine⟨rfl,⟨k.loose,k.same,by rw[k.u,ht,List.append_nil],fun h=>(k.th h).1⟩,fun _ _=>rfl,hp⟩
 ·have htl : tl.length ≠ 0 := fun h => ht (List.length_eq_zero_iff.1 h)
  have he:g0 s z≠z0 s z:=by rw[hg,hzz];omega
  rw[if_neg he,if_neg he]
  have hth:(s.fs z).seen.th=true:=by
   cases h:(s.fs z).seen.th with
   |true=>rfl
   |false=>exact absurd (k.th h).2 ht
  have hown:z2e6 (s.fs z) ⟨1,[],g0 s z⟩=0:=by
   unfold z2e6;rw[if_neg (by show ¬(1:Nat)=0;decide),if_neg (by rw[hth];decide),if_neg]
   rintro ⟨_,h⟩
   rw[k.u,List.length_append,hlen,hg] at h;have h:((29*E.length:Nat):Int)<0∨((29*E.length+tl.length:Nat):Int)<((29*E.length:Nat):Int):=h
   rcases h with h|h<;>omega
  have hE0:z121 s (z:Int) ⟨1,[],g0 s z⟩=0:=(z15a (r0 _ hp)).trans hown;have ha:=z23b (c:=⟨1,[],g0 s z⟩) (r0 _ hp) hown;have hsp:z60 s.p= -1:=by rw[hp];rfl
  rw[if_neg (by rw[hE0];simp),if_neg (by rw[hE0];simp),ha]
  have hs:z1fb ⟨upd s.fs z (zf9 (s.fs z) ⟨1,[],g0 s z⟩),z60 s.p,s.ops+1⟩ (z:Int)=⟨upd (upd s.fs z (zf9 (s.fs z) ⟨1,[],g0 s z⟩)) z (z44b (upd s.fs z (zf9 (s.fs z) ⟨1,[],g0 s z⟩) z)),z60 (z60 s.p),s.ops+1+1⟩:=by
   unfold z1fb;rw[if_pos (show zd7 (z60 s.p) (z:Int)=0 from r0 _ hsp)];rfl
  rw[hs];refine⟨r0 _ hsp,?_,fun f hf=>?_,?_⟩
  ·show FileIs (upd (upd s.fs z (zf9 (s.fs z) ⟨1, [], g0 s z⟩)) z (z44b (upd s.fs z (zf9 (s.fs z) ⟨1, [], g0 s z⟩) z)) z) E
   rw[zc8,zc8];refine⟨rfl,rfl,?_,fun h=>?_⟩
   ·show (s.fs z).seen.u.take (g0 s z).toNat = z128 E
    rw[hg,Int.toNat_natCast,k.u,List.take_left' hlen]
   ·have h : (s.fs z).seen.th = false := h
    rw[hth] at h;cases h
  ·show upd (upd s.fs z (zf9 (s.fs z) ⟨1, [], g0 s z⟩)) z (z44b (upd s.fs z (zf9 (s.fs z) ⟨1, [], g0 s z⟩) z)) f = s.fs f
   rw[z92 _ _ hf,z92 _ _ hf]
  ·show z60 (z60 s.p) = -1
   rw[hsp];rfl
theorem reopen{s:DS}{E:Nat→List Ent}{m:Ent}{g:Nat}{tl:Nat→zf}(o:Ord E m g)(hp:s.p= -1)(k:∀f,f=0∨f=1→Behind (s.fs f) (E f) (tl f)):
  z1ef s 0 (g0 s 0) (z0 s 0)=0∧z1ef (z8c s 0 (g0 s 0) (z0 s 0)) 1 (g0 s 1) (z0 s 1)=0∧VInv (opD s) (opX s) E g∧(opX s).ne=m∧(opD s).p= -1:=by
 obtain⟨a1,a2,a3,a4,a5,a6⟩:=z2bf (s:=s) (z:=0) (by decide) hp (fun e he=>(o.ents (.inl rfl) e he).1) (k 0 (.inl rfl))
 have k1:Behind ((z8c s ((0:Nat):Int) (g0 s ((0:Nat):Int)) (z0 s ((0:Nat):Int))).fs 1) (E 1) (tl 1):=by
  rw[a5 1 (by decide)];exact k 1 (.inr rfl)
 obtain⟨b1,b2,b3,b4,b5,b6⟩:=z2bf (s:=z8c s ((0:Nat):Int) (g0 s ((0:Nat):Int)) (z0 s ((0:Nat):Int))) (z:=1) (by decide) a6 (fun e he=>(o.ents (.inr rfl) e he).1) k1;obtain⟨c1,c2,_⟩:=z2bf (s:=s) (z:=1) (by decide) hp (fun e he=>(o.ents (.inr rfl) e he).1) (k 1 (.inr rfl))
 have hg1:g0 (z8c s ((0:Nat):Int) (g0 s ((0:Nat):Int)) (z0 s ((0:Nat):Int))) ((1:Nat):Int)=g0 s 1:=by
  show ((29*(z44 (z21 (z8c s ((0:Nat):Int) (g0 s ((0:Nat):Int)) (z0 s ((0:Nat):Int))) ((1:Nat):Int))).length:Nat):Int)=((29*(z44 (z21 s ((1:Nat):Int))).length:Nat):Int);rw[b2,c2]
 have hz1:z0 (z8c s ((0:Nat):Int) (g0 s ((0:Nat):Int)) (z0 s ((0:Nat):Int))) ((1:Nat):Int)=z0 s 1:=by
  show ((z21 (z8c s ((0:Nat):Int) (g0 s ((0:Nat):Int)) (z0 s ((0:Nat):Int))) ((1:Nat):Int)).length:Int)=((z21 s ((1:Nat):Int)).length:Int);rw[b1,c1]
 rw[hg1,hz1] at b3 b4 b5 b6
 have hpk:opP s=(m,(g:Int)):=by
  unfold opP;show z3b 1 (z44 (z21 s ((1:Nat):Int))) (z3b 0 (z44 (z21 s ((0:Nat):Int))) (ne0,0))=_;rw[c2,a2];exact o.pick
 refine⟨a3,b3,⟨?_,fun f hf=>?_,?_,?_,?_,rfl⟩,?_,b6⟩
 ·show Ord E (opP s).1 g
  rw[hpk];exact o
 ·rcases hf with rfl | rfl
  ·show FileIs ((opD s).fs 0) (E 0)
   rw[show (opD s).fs 0=(z8c s ((0:Nat):Int) (g0 s ((0:Nat):Int)) (z0 s ((0:Nat):Int))).fs 0 from b5 0 (by decide)];exact a4
  ·exact b4
 ·show (opP s).2 = (g : Int)
  rw[hpk]
 ·show ((z44 (z21 s ((0 : Nat) : Int))).length : Int) = _
  rw[a2]
 ·show ((z44 (z21 s ((1 : Nat) : Int))).length : Int) = _
  rw[c2]
 ·show (opP s).1 = m
  rw[hpk]
theorem FileIs.behind{y:FileS}{E:List Ent}(k:FileIs y E):Behind y E []:=⟨k.loose,k.same,by rw[List.append_nil];exact k.u,z2aa,fun h=>⟨k.th h,rfl⟩⟩
theorem z402(I:VInv s x E g)(zs:List Int)(torn:Int):∀f,f=0∨f=1→Behind ((z27e s zs torn).fs f) (E f) []:=fun f hf=>by
 have k:=I.fi f hf;have e:(z27e s zs torn).fs f=zd1 (s.fs f) (z56 zs f) torn:=if_pos (by rcases hf with rfl|rfl<;>decide);have ec:zbe (s.fs f) (z56 zs f) torn=(s.fs f).sure:=z468 k.loose _ _;rw[e];unfold zd1;rw[ec,k.same];exact⟨rfl,rfl,by rw[List.append_nil];exact k.u,z2aa,fun h=>⟨k.th h,rfl⟩⟩
end
def shr(lo:Nat→Prop)(a b:Nat):Nat→Prop:=fun i=>lo i∧(i<a∨b≤i)
theorem z4ab(b:Nat)(h:AHeap):z65 Try.prog h .neq 25 true (some (.ptr b 0)) (some AV.nilp)=some (.val (.bool true),h):=by kernel_rfl
structure Sy (N:Nat) (lo:Nat→Prop) (H:AHeap) (db xb:Nat) (s:DS) (x:BoxS) (B:Nat) (m:Ent):Prop where
 K:At lo H db s B
 row:RowH H xb z23f (z13f db x)
 hxb:xb<H.next
 hxl:¬lo xb
 inv:∃E g,VInv s x E g
 ne:x.ne=m
 hl:∀b,lo b→N≤b
 hx:N≤xb
 hN:N≤H.next
structure Crd (N:Nat) (lo:Nat→Prop) (H:AHeap) (db:Nat) (s:DS) (B:Nat) (m:Ent):Prop where
 K:At lo H db s B
 p:s.p= -1
 ord:∃(E:Nat→List Ent) (g:Nat) (tl:Nat→zf),Ord E m g∧∀f,f=0∨f=1→Behind (s.fs f) (E f) (tl f)
 hl:∀b,lo b→N≤b
 hN:N≤H.next
structure Mid (N:Nat) (lo:Nat→Prop) (H:AHeap) (db:Nat) (s:DS) (B:Nat) (m y:Ent):Prop where
 K:At lo H db s B
 ord:∃E g,Ord E m g∧Broken s E m g y
 hy:z17a y
 hc:y.c=m.c+1
 hl:∀b,lo b→N≤b
 hN:N≤H.next
section
variable {N n d D db xb B:Nat}{lo lo':Nat→Prop}{H H':AHeap}{s:DS}{x:BoxS}{m y:Ent}{t f:Int}
theorem z422{h0 h1:AHeap}{b:Nat}(h2:h0.next≤b)(h3:b<h1.next):¬shr lo h0.next h1.next b:=fun hh=>by
 rcases hh.2 with h|h<;>omega
theorem At.seen_len(K:At lo H db s B){z:Nat}(hz:z<32):(s.fs z).seen.u.length≤B:=by
 obtain⟨_,_,K⟩:=K;obtain⟨o1,_,o3,_⟩:=K.ok z hz;have:=z131 (s.fs z).loose (s.fs z).sure;rw[←o1] at this;omega
theorem At.read_len(K:At lo H db s B){z:Nat}(hz:z<32):(z21 s (z:Int)).length≤B:=by
 unfold z21
 split
 ·split
  ·rw [Int.toNat_natCast]
   exact K.seen_len hz
  ·exact Nat.zero_le _
 ·exact Nat.zero_le _
theorem Sy.alloc(Y:Sy N lo H db xb s x B m)(t:Tch [] H H'):Sy N (shr lo H.next H'.next) H' db xb s x B m:=
 ⟨Y.K.part t (fun _ h=>nomatch h),Y.row.tch t Y.hxb (fun h=>nomatch h),Nat.lt_of_lt_of_le Y.hxb t.1,fun hh=>Y.hxl hh.1,Y.inv,Y.ne,fun b hb=>Y.hl b hb.1,Y.hx,Nat.le_trans Y.hN t.1⟩
theorem Sy.other{S:List Nat}(Y:Sy N lo H db xb s x B m)(t:Tch S H H')(hS:∀b∈S,¬lo b∧b≠xb):Sy N lo H' db xb s x B m:=
 ⟨Y.K.tch t (fun b hb=>.inl (hS b hb).1),Y.row.tch t Y.hxb (fun h=>(hS _ h).2 rfl),Nat.lt_of_lt_of_le Y.hxb t.1,Y.hxl,Y.inv,Y.ne,Y.hl,Y.hx,Nat.le_trans Y.hN t.1⟩
theorem new_crd(hN:N≤H.next)(K:At (fun b=>H.next≤b) H' H.next newS 0)(t:Tch [] H H'):Crd N (fun b=>H.next≤b) H' H.next newS 0 ne0:=
 ⟨K,rfl,⟨fun _=>[],0,fun _=>[],⟨.inl rfl,.inl ⟨rfl,rfl,rfl,rfl⟩⟩,fun _ _=>⟨rfl,rfl,rfl,z2aa,fun _=>⟨rfl,rfl⟩⟩⟩,fun _ hb=>Nat.le_trans hN hb,Nat.le_trans hN t.1⟩
theorem Sy.now(Y:Sy N lo H db xb s x B m):∃H',wL n (D+6) (d+1) false 16 [.ptr xb 0] H=some (.ret (.agg [.int .i64 m.t,.int .i64 m.f]),H')∧Tch [] H H':=by
 obtain⟨H',e,t⟩:=now_w (n:=n) (d:=D+5) Y.row Y.hxb;rw[Y.ne] at e;exact⟨H',(z293 16).trans e,t⟩
theorem Sy.crash(Y:Sy N lo H db xb s x B m)(hn:1000000<n)(hB:B<900000){torn:Int}(ht:torn<9223372036854775808){lv:AV}{zs:List Int}(hz:zs.length<9223372036854775808)(rd:RdI lo H lv zs):
  ∃H' S s',wL n (D+6) (d+1) false 15 [.ptr db 0,lv,.int .i64 torn] H=some (.ret (.int .i64 0),H')∧Crd N lo H' db s' B m∧Tch S H H'∧∀b∈S,lo b:=by
 obtain⟨H',S,e,K',t,hS⟩:=z43a (n:=n) (d:=D+2) hn hB ht hz Y.K rd;obtain⟨E,g,I⟩:=Y.inv;exact⟨H',S,_,(z293 15).trans e,⟨K',rfl,⟨E,g,fun _=>[],Y.ne▸I.o,z402 I zs torn⟩,Y.hl,Nat.le_trans Y.hN t.1⟩,t,hS⟩
theorem Crd.open(Y:Crd N lo H db s B m)(hn:1000000000<n)(hB:B<700000):
  ∃lo' H' xb' S s' x',wL n (D+6) (d+6) false 10 [.ptr db 0] H=some (.ret (.tup [.ptr xb' 0,.int .i64 0]),H')∧Sy N lo' H' db xb' s' x' (B+6) m∧s'.p= -1∧z370 lo lo'∧H.next≤xb'∧Tch S H H'∧∀b∈S,lo b:=by
 obtain⟨E,g,tl,o,hb⟩:=Y.ord;obtain⟨r1,r2,r3,r4,r5⟩:=reopen o Y.p hb;have l0:=Y.K.read_len (z:=0) (by decide);have l1:=Y.K.read_len (z:=1) (by decide);have l0:(z21 s 0).length≤B:=l0;have l1:(z21 s 1).length≤B:=l1;obtain⟨lo',H',xb',S,e,K',L,kx,hx1,hx2,hx3,t,hS⟩:=open_w (n:=n) (D:=D+1) (d:=d) Y.K hB hn (by rw[Y.p];decide) (by omega) (by omega) r1 r2;exact⟨lo',H',xb',S,opD s,opX s,e,⟨K',kx,hx1,hx3,⟨E,g,r3⟩,r4,fun b hb=>Y.hl b (L b hb),Nat.le_trans Y.hN hx2,Nat.le_trans Y.hN t.1⟩,r5,L,hx2,t,hS⟩
theorem err40{s:DS}{g:Nat}{c:Chg}(hg:g<32)(hp:s.p= -1):z121 s (g:Int) c≠40∧(z15d s (g:Int) c).p= -1:=by
 have r0:zd7 s.p (g:Int)=0:=by
  unfold zd7;rw[if_neg (by omega),if_pos (by omega)]
 constructor
 ·rw [z15a r0]
  unfold z2e6
  split
  ·split<;>decide
  ·split
   ·decide
   ·split<;>decide
 ·unfold z15d
  split
  ·show z60 s.p = -1
   rw[hp];rfl
  ·exact hp
theorem stp40{s:DS}{g:Nat}{fr:Bool}{u:zf}(hg:g<32)(hp:s.p= -1):(z12a s (g:Int) fr u).1≠40:=by
 have h1:(z17f s (g:Int) fr).1≠40∧(z17f s (g:Int) fr).2.p= -1:=by
  unfold z17f
  split
  ·exact err40 hg hp
  ·exact⟨(by decide:(0:Int)≠40),hp⟩
 have h2:=err40 (c:=chA u) hg h1.2;unfold z12a
 split
 ·exact h1.1
 ·split
  ·exact h2.1
  ·show zd7 _ (g : Int) ≠ 40
   rw[h2.2];unfold zd7;rw[if_neg (by decide),if_pos (by omega)];decide
theorem VInv.size{E:Nat→List Ent}{g:Nat}(I:VInv s x E g)(K:At lo H db s B){z:Nat}(hz:z=0∨z=1):29*(E z).length≤B∧(z128 (E z)).length≤B:=by
 have h1:=K.seen_len (z:=z) (by omega);rw[(I.fi z hz).u] at h1;have h2:=z2cd (E z);omega
theorem wr_done{E:Nat→List Ent}{g:Nat}(I:VInv s x E g)(hsz:∀f,f=0∨f=1→(z128 (E f)).length <900000)(hb:z192 t f)(hm:z2f4 t f x.ne.t x.ne.f=true)(hc:x.ne.c<4611686018427387904)(hp:s.p= -1):(wr s x t f).1=0:=by
 have c1:z2f2 x t f=0:=by
  unfold z2f2;rw[if_neg (by rw[I.br];simp),if_pos hb,if_pos hm]
 obtain⟨g',hpf,hg',hpl⟩:=z41f I.o.g01 I.file;obtain⟨o1,o2,o3⟩:=z487 (s:=s) (g:=g') (E:=E g') (fr:=z1d x) (e:=zca x t f) (by omega) (I.fi g' hg') (hsz g' hg');unfold wr;rw[if_neg (by simpa using c1)]
 split
 ·rfl
 rw[if_neg (by omega),hpf]
 by_cases c4:(z12a s (g':Int) (z1d x) (z2e (z10b (zca x t f)))).1=0
 ·rw[if_neg (by simpa using c4)]
 ·exact absurd (o3 c4).1 (stp40 (by omega) hp)
theorem Sy.write(Y:Sy N lo H db xb s x B m)(hn:1000000<n)(hB:B<600000)(t f:Int):
  ∃lo' H' S e s' x',wL n (D+6) (d+1) false 11 [.ptr xb 0,.agg [.int .i64 t,.int .i64 f]] H=some (.ret (.int .i64 e),H')∧z370 lo lo'∧Tch S H H'∧(∀b∈S,lo b∨b=xb)∧(s.p= -1→z192 t f→z2f4 t f m.t m.f=true→m.c<4611686018427387904→e=0)∧
   (((e=2∨e=5)∧Sy N lo' H' db xb s' x' (B+40) m)∨(e=0∧∃m':Ent,m'.t=t∧m'.f=f∧(m'=m∨z2f4 t f m.t m.f=true)∧Sy N lo' H' db xb s' x' (B+40) m')∨(e=40∧∃y:Ent,y.t=t∧y.f=f∧z2f4 t f m.t m.f=true∧Mid N lo' H' db s' (B+40) m y)):=by
 obtain⟨E,g,I⟩:=Y.inv;have s0:=I.size Y.K (z:=0) (.inl rfl);have s1:=I.size Y.K (z:=1) (.inr rfl);have hm0:=I.m0;have hm1:=I.m1
 have hfile:x.file=0∨x.file=1:=by
  have:=I.file
  rcases I.o.g01 with h|h<;>omega
 have hsz:∀f,f=0∨f=1→(z128 (E f)).length <900000:=fun f hf=>by
  have:=(I.size Y.K hf).2;omega
 obtain⟨lo',H',S,e,K',L,kx,hxl,tc,hS⟩:=z479 (n:=n) (d:=D) (t:=t) (f:=f) hn Y.K (by omega) Y.row Y.hxb Y.hxl hfile I.o.c0 (by omega) (by omega);have hl':∀b,lo' b→N≤b:=fun b hb=>Y.hl b (L b hb);have hN':=Nat.le_trans Y.hN tc.1;have hxb':=Nat.lt_of_lt_of_le Y.hxb tc.1;refine⟨lo',H',S,(wr s x t f).1,(wr s x t f).2.2,(wr s x t f).2.1,(z293 11).trans e,L,tc,hS,fun h1 h2 h3 h4=>?_,?_⟩
 ·rw [← Y.ne] at h3 h4
  exact wr_done I hsz h2 h3 h4 h1
 rcases wr_out (t:=t) (f:=f) I hsz with⟨h1,h2⟩|⟨h1,h2,h3⟩|⟨hm,hbo,h⟩
 ·have e1 : (wr s x t f).2.1 = x := by rw [h2]
  have e2:(wr s x t f).2.2=s:=by rw[h2]
  rw[e1] at kx ⊢;rw[e2] at K' ⊢;exact .inl ⟨h1,K',kx,hxb',hxl,⟨E,g,I⟩,Y.ne,hl',Y.hx,hN'⟩
 ·rw [h1] at kx K' ⊢
  exact .inr (.inl ⟨rfl,m,by rw[h2,Y.ne],by rw[h3,Y.ne],.inl rfl,K',kx,hxb',hxl,⟨E,g,I⟩,Y.ne,hl',Y.hx,hN'⟩)
 ·rw [Y.ne] at hm h
  rcases h with⟨h0,E',g',I',hne⟩|⟨h0,hy,W⟩
  ·exact .inr (.inl ⟨h0,zca x t f,rfl,rfl,.inr hm,K',kx,hxb',hxl,⟨E',g',I'⟩,hne,hl',Y.hx,hN'⟩)
  ·exact .inr (.inr ⟨h0,zca x t f,rfl,rfl,hm,K',⟨E,g,Y.ne▸I.o,W⟩,hy,by show x.ne.c+1=m.c+1;rw[Y.ne],hl',hN'⟩)
end
def eC(x:Cont)(c:Chg):Int:=if c.k=0 then (if (1048576:Int) - (x.u.length:Int)<(c.s.length:Int) then 8 else 0) else if x.th=false then 4 else if c.k=1∧(c.n<0∨(x.u.length:Int)<c.n) then 5 else 0
theorem z1aa(s:DS)(z:Int)(c:Chg):z121 s z c=z1ca s.p z (eC (z1e4 s z) c):=by
 unfold z121 z1ca
 by_cases h0:s.p=0
 ·have : zd7 s.p z = 40 := if_pos h0
  rw[if_neg (by omega),this,if_pos h0]
 ·rw [if_neg h0]
  by_cases h1:0≤z∧z<32
  ·have e1 : zd7 s.p z = 0 := by
    unfold zd7;rw[if_neg h0,if_pos h1]
   have e2:z1e4 s z=(s.fs z.toNat).seen:=if_pos h1;rw[if_pos e1,if_pos h1,e2];rfl
  ·have e1 : zd7 s.p z = 2 := by
    unfold zd7;rw[if_neg h0,if_neg h1]
   rw[if_neg (by omega),if_neg h1,e1]
theorem z49b(s:DS)(z:Int):zd7 s.p z=z1ca s.p z 0:=rfl
theorem z3d8{p z e:Int}(h:z1ca p z e=0):p≠0∧∃f:Nat,z=(f:Int)∧f<32:=by
 unfold z1ca at h
 split at h
 ·omega
 ·split at h
  ·exact⟨by assumption,z.toNat,by omega,by omega⟩
  ·omega
section
variable {lo:Nat→Prop}{n d rb B:Nat}{h:AHeap}{D:List AV}{vs:Nat→AV}{s:DS}
set_option maxHeartbeats 1000000 in
theorem z29b(hn:1000000<n)(K:RefD lo h rb D vs s)(ho:SOk s B)(hB:B<900000)(hx:h.ex=[])(z:Int){c:Chg}:
  ∃h',world n (d+4) 23 [.ptr rb 0,.int .i64 z,.agg (z1c0 c)] h=some (.ret (.int .i64 (z121 s z c)),h')∧Tch [rb] h h'∧RefAt (shr lo h.next h'.next) h' rb (z15d s z c):=by
 suffices hK:Wp (world n (d+4) 23 [.ptr rb 0,.int .i64 z,.agg (z1c0 c)] h) fun r h'=>r=.ret (.int .i64 (z121 s z c))∧Tch [rb] h h'∧RefAt (shr lo h.next h'.next) h' rb (z15d s z c) by
  obtain⟨_,h',e,rfl,k⟩:=hK;exact⟨h',e,k⟩
 have hlen:=K.len;rw[z1d8];unfold z6a;refine y1a (Mem.nil [] h) rfl fun h2 M2=>?_;have t2:=M2.tch;have K2:RefD lo h2 rb D vs s:=K.tch t2 (fun _ h=>nomatch h) (fun _ h _=>h);obtain⟨h3,e3,t3⟩:=see_r (n:=n) (d:=d) hn K2 ho (by omega) z;have M3:=Mem.keep M2 t3;refine Wp.callN e3 (Wp.obind (z32 _) (y15 M3 fun h4 M4=>?_));rw[z35];refine y18 M4 rfl rfl rfl fun h5 M5=>?_;have t5:=M5.tch;have g0:(z1c0 c)[0]? =some (.int .i64 ((c.k:Int)+1)):=rfl;have g1:(z1c0 c)[1]? =some (ze c.s):=rfl;have g2:(z1c0 c)[2]? =some (.int .i64 c.n):=rfl;have q0:(zcd (z1e4 s z))[0]? =some (.bool (z1e4 s z).th):=rfl;have q1:(zcd (z1e4 s z))[1]? =some (ze (z1e4 s z).u):=rfl
 have hsl:(z1e4 s z).u.length≤B:=by
  unfold z1e4
  split
  ·obtain ⟨o1, o2, o3, o4⟩ := ho.ok z.toNat (by omega)
   have:=z131 (s.fs z.toNat).loose (s.fs z.toNat).sure;rw[←o1] at this;omega
  ·exact Nat.zero_le _
 refine Wp.obind (z6 _ _ _) (y3a M5 g0 (Wp.obind (z5 _ _) (Wp.lett (y7 fun k20 ek=>?_))))
 have next:∀e:Int,e=eC (z1e4 s z) c→Wp (k20 e h5) fun r h'=>r=.ret (.int .i64 (z121 s z c))∧Tch [rb] h h'∧RefAt (shr lo h.next h'.next) h' rb (z15d s z c):=by
  intro e he;subst he;rw[ek];have K5:RefD lo h5 rb D vs s:=K.tch t5 (fun _ h=>nomatch h) (fun _ h _=>h);obtain⟨h6,e6,t6,a6,b6⟩:=step_r (n:=n) (d:=d+2) (lo':=lo) K5 ho (by omega) z (eC (z1e4 s z) c) (fun _ h _=>h);rw[←z1aa] at e6 a6 b6;refine Wp.callN e6 (Wp.obind (z5 _ _) (Wp.lett (y7 fun k29 e29=>?_)))
  by_cases h0:z121 s z c=0
  ·obtain ⟨D6, K6, n6⟩ := b6 h0
   rw[z1aa] at h0;obtain⟨hp,f,rfl,hf⟩:=z3d8 h0;rw[←z1aa] at h0
   have r0:zd7 s.p (f:Int)=0:=by
    unfold zd7;rw[if_neg hp,if_pos (by omega)]
   have ha:z15d s (f:Int) c=⟨upd s.fs f (zf9 (s.fs f) c),z60 s.p,s.ops+1⟩:=by
    unfold z15d;rw[if_pos h0,Int.toNat_natCast]
   rw[h0,ha];obtain⟨o1,o2,o3,o4⟩:=ho.ok f hf;have C:=K6.cells f hf;have hx6:h6.ex=[]:=by rw[t6.2.1,t5.2.1,hx]
   have hn5:=t5.1;have hn6:=t6.1;refine yc rfl (Wp.obind (z8 _ _) (Wp.obind (z6 _ _ _) (Wp.obind (idxR hf) (Wp.obind (z6 _ _ _) (Wp.obind (y3 K6.row C.c2) ?_)))));obtain⟨v7,h7,e7,rl7,t7,s7⟩:=(K6.rl f hf).copy (by show (s.fs f).loose.length <_;omega) hx6;have hn7:=t7.1;have hbox:h.next<h2.next:=M2.at0.2.1;have hb5:RowH h5 h.next TCr (z1c0 c):=M5.at1.1;have hrb:=K.hrb;have hbox7:RowH h7 h.next TCr (z1c0 c):=(hb5.tch t6 M5.at1.2.1 (fun hm=>by have:=List.mem_singleton.1 hm;omega)).tch t7 (Nat.lt_of_lt_of_le M5.at1.2.1 t6.1) (fun h=>nomatch h);refine Wp.outK e7 (Wp.obind (RowH.ldAll hbox7 rfl) (Wp.obind (z8 _ _) (Wp.obind (z6 _ _ _) ?_)));have hx7:h7.ex=[]:=by rw[t7.2.1,hx6]
   refine y2a (Mem.nil [] h7) (bldSlR _ _ _ _) rfl (by rw[hx7];rfl) fun h8 M8=>?_;have t8:=M8.tch;have hn8:=t8.1;have rl8:=rl7.tch t8 (fun _ _ h=>nomatch h);obtain⟨h9,e9,rl9,t9⟩:=rl8.push M8.at0.1 (by show (s.fs f).loose.length <_;omega) (by rw[t8.2.1,hx7]);have hn9:=t9.1;refine Wp.outK e9 (Wp.obind (idxR hf) (Wp.obind (z6 _ _ _) ?_));have hrb6:rb<h6.next:=K6.hrb;have T9:Tch (z5d v7) h6 h9:=((t7.mono fun _ hb=>nomatch hb).trans (t8.mono fun _ hb=>nomatch hb)).trans t9;have K9:RefD lo h9 rb D6 vs ⟨s.fs,z60 s.p,s.ops+1⟩:=K6.tch T9 (fun b hb=>.inr (s7 b hb)) (fun _ h _=>h);have hl9:=K9.len;show Wp (Abs.obind (z27 h9 1 [AV.sl h8.next 0 ((s.fs f).loose.length+1) 3] (.ptr rb (3*f+2))) _) _;refine Wp.st1 K9.row (show 3*f+2<D6.length by omega) rfl fun h10 k10 t10 n10=>?_;rw[e29];have T:Tch [rb] h h10:=(((t5.mono fun _ hb=>nomatch hb).trans t6).trans' T9 fun b hb=>.inr (by have:=s7 b hb;omega)).trans t10;refine Wp.ret ⟨by rw[h0],T,_,_,K9.set (x:=zf9 (s.fs f) c) (v:=.sl h8.next 0 ((s.fs f).loose.length+1) 3) t10 (fun b hb _=>hb.1) hf k10 (by rw[List.length_set];exact hl9) ⟨?_,?_,?_⟩ (fun i hi=>by rw[List.getElem?_set_ne (by omega)]) (rl9.tch t10 fun b hb hm=>?_) (fun b hb=>?_)⟩
   ·rw [List.getElem?_set_ne (by omega)]
    exact C.c0
   ·rw [List.getElem?_set_ne (by omega)]
    exact C.c1
   ·rw[List.getElem?_set_self (by omega)]
   ·have h1 := List.mem_singleton.1 hb
    have h2:=List.mem_singleton.1 hm;omega
   ·have h1 : b = h8.next := List.mem_singleton.1 hb
    have h2:h8.next<h9.next:=rl9.lt _ (List.mem_singleton.2 rfl);refine⟨fun hh=>?_,by omega⟩
    rcases hh.2 with h3|h3<;>omega
  ·have e6h := a6 h0
   subst e6h;refine y9 (z8d h0) ?_;rw[e29,z162 h0];exact Wp.ret ⟨rfl,t5.mono (fun _ hb=>nomatch hb),RefAt.tch ⟨D,vs,K⟩ t5 (fun _ h=>nomatch h) (fun b hb _=>hb.1)⟩
 by_cases h0:c.k=0
 ·have hll := z4e c.s
  have hlu:=z4e (z1e4 s z).u;have e1:eC (z1e4 s z) c=if (1048576:Int) - ((z1e4 s z).u.length:Int)<(c.s.length:Int) then 8 else 0:=if_pos h0
  refine yc (zbb (by omega)) (Wp.obind (z6 _ _ _) (y3a M5 g1 (Wp.obind (z16 _) (y27 M5 q1 (Wp.obind (z16 _) (yd (by omega) (by omega) (Wp.lett (y7 fun k60 e60=>?_))))))))
  by_cases h1:(1048576:Int) - ((z1e4 s z).u.length:Int)<(c.s.length:Int)
  ·refine yc (by rw [decide_eq_true_eq]; omega) ?_
   rw[e60];exact next 8 (by rw[e1,if_pos h1])
  ·refine y9 (by rw [decide_eq_false_iff_not]; omega) ?_
   rw[e60];exact next 0 (by rw[e1,if_neg h1])
 ·have e1 : eC (z1e4 s z) c = if (z1e4 s z).th = false then 4 else if c.k = 1 ∧ (c.n < 0 ∨ ((z1e4 s z).u.length : Int) < c.n) then 5 else 0 := if_neg h0
  refine y9 (z8d (by omega)) (y27 M5 q0 (Wp.obind (z13 _) (Wp.lett (y7 fun k67 e67=>?_))));cases hth:(z1e4 s z).th with
  |false=>
   refine yc rfl ?_;rw[e67];exact next 4 (by rw[e1,if_pos hth])
  |true=>
   rw[if_neg (by rw[hth];decide)] at e1;refine y9 rfl (Wp.obind (z6 _ _ _) (y3a M5 g0 (Wp.obind (z5 _ _) (Wp.lett (y7 fun j45 e45=>?_)))))
   have jt:(c.k=1∧(c.n<0∨((z1e4 s z).u.length:Int)<c.n))→Wp (j45 true h5) fun r h'=>r=.ret (.int .i64 (z121 s z c))∧Tch [rb] h h'∧RefAt (shr lo h.next h'.next) h' rb (z15d s z c):=fun hh=>by
    rw[e45];refine y7 fun k78 e78=>yc rfl ?_;rw[e78,e67];exact next 5 (by rw[e1,if_pos hh])
   have jf:(¬(c.k=1∧(c.n<0∨((z1e4 s z).u.length:Int)<c.n)))→Wp (j45 false h5) fun r h'=>r=.ret (.int .i64 (z121 s z c))∧Tch [rb] h h'∧RefAt (shr lo h.next h'.next) h' rb (z15d s z c):=fun hh=>by
    rw[e45];refine y7 fun k78 e78=>y9 rfl ?_;rw[e78,e67];exact next 0 (by rw[e1,if_neg hh])
   by_cases h1:c.k=1
   ·have hlu := z4e (z1e4 s z).u
    refine yc (zbb (by omega)) (Wp.obind (z6 _ _ _) (y3a M5 g2 (Wp.obind (z5 _ _) (Wp.lett (y7 fun j44 e44=>?_)))))
    by_cases h2:c.n<0
    ·refine yc (by rw [decide_eq_true_eq]; exact h2) ?_
     rw[e44];exact jt ⟨h1,.inl h2⟩
    ·refine y9 (by rw [decide_eq_false_iff_not]; exact h2) (Wp.obind (z6 _ _ _) (y3a M5 g2 (Wp.obind (z5 _ _) (y27 M5 q1 (Wp.obind (z16 _) (Wp.lett ?_))))))
     rw[e44]
     by_cases h3:((z1e4 s z).u.length:Int)<c.n
     ·rw [decide_eq_true (show c.n > z7e (z1e4 s z).u by omega)]
      exact jt ⟨h1,.inr h3⟩
     ·rw [decide_eq_false (show ¬ c.n > z7e (z1e4 s z).u by omega)]
      exact jf (fun hh=>by rcases hh.2 with h|h<;>omega)
   ·refine y9 (z8d (by omega)) ?_
    exact jf (fun hh=>h1 hh.1)
theorem bldFi(th:Bool)(u:zf):z36d Try.prog TFi [(0,.agg [.bool th,ze u])]=some [.bool th,ze u,.nsl]:=by kernel_rfl
theorem laid3{l:List AV}{o:Nat}{a b c:AV}(h:o+2<l.length):(z3c9 l o [a,b,c]).length=l.length∧(z3c9 l o [a,b,c])[o]? =some a∧(z3c9 l o [a,b,c])[o+1]? =some b∧(z3c9 l o [a,b,c])[o+2]? =some c∧∀i,(i<o∨o+3≤i)→(z3c9 l o [a,b,c])[i]? =l[i]?:=by
 have h3:o+[a,b,c].length≤l.length:=h;refine⟨z1f2 h3,?_,?_,?_,fun i hi=>?_⟩
 ·rw [z18b h3, if_pos ⟨Nat.le_refl _, by show o < o + 3; omega⟩, Nat.sub_self]
  rfl
 ·rw [z18b h3, if_pos ⟨by omega, by show o + 1 < o + 3; omega⟩, show o + 1 - o = 1 by omega]
  rfl
 ·rw [z18b h3, if_pos ⟨by omega, by show o + 2 < o + 3; omega⟩, show o + 2 - o = 2 by omega]
  rfl
 ·rw[z18b h3,if_neg (fun hh=>by have:i<o+3:=hh.2;omega)]
theorem row3{K:RefD lo h rb D vs s}{f:Nat}(hf:f<32):z2b h 3 (.ptr rb (3*f))=some (zcd (s.fs f).sure++[vs f]):=by
 have hlen:=K.len;have C:=K.cells f hf;rw[K.row.ld (by omega)]
 congr 1
 refine List.ext_getElem? fun i=>?_
 rcases i with _|_|_|i
 ·rw [List.getElem?_take_of_lt (by decide), List.getElem?_drop]
  exact C.c0
 ·rw [List.getElem?_take_of_lt (by decide), List.getElem?_drop]
  exact C.c1
 ·rw [List.getElem?_take_of_lt (by decide), List.getElem?_drop]
  exact C.c2
 ·rw[List.getElem?_eq_none (by rw[List.length_take];omega),List.getElem?_eq_none (by show 3≤_;omega)]
theorem sync_r(hn:1000000<n)(K:RefD lo h rb D vs s)(ho:SOk s B)(hB:B<900000)(z:Int):
  ∃h',world n (d+3) 44 [.ptr rb 0,.int .i64 z] h=some (.ret (.int .i64 (zd7 s.p z)),h')∧Tch [rb] h h'∧RefAt (shr lo h.next h'.next) h' rb (z1fb s z):=by
 suffices hK:Wp (world n (d+3) 44 [.ptr rb 0,.int .i64 z] h) fun r h'=>r=.ret (.int .i64 (zd7 s.p z))∧Tch [rb] h h'∧RefAt (shr lo h.next h'.next) h' rb (z1fb s z) by
  obtain⟨_,h',e,rfl,k⟩:=hK;exact⟨h',e,k⟩
 rw[z247];unfold z95;obtain⟨h6,e6,t6,a6,b6⟩:=step_r (n:=n) (d:=d+1) (lo':=lo) K ho (by omega) z 0 (fun _ h _=>h);rw[←z49b] at e6 a6 b6;refine Wp.callN e6 (Wp.obind (z5 _ _) (Wp.lett (y7 fun k9 e9=>?_)))
 by_cases h0:zd7 s.p z=0
 ·obtain ⟨D6, K6, n6⟩ := b6 h0
  obtain⟨hp,f,rfl,hf⟩:=z30b h0
  have es:z1fb s (f:Int)=⟨upd s.fs f (z44b (s.fs f)),z60 s.p,s.ops+1⟩:=by
   unfold z1fb;rw[if_pos h0,Int.toNat_natCast]
  rw[h0,es];have hl6:=K6.len;have hseen:=(ho.ok f hf).1;refine yc rfl (Wp.obind (z8 _ _) (Wp.obind (z6 _ _ _) (Wp.obind (idxR hf) (Wp.obind (row3 (K:=K6) hf) (Wp.obind (z8 _ _) (Wp.obind (z6 _ _ _) ?_))))));have e7:=seen_r (n:=n) (d:=d) (h:=h6) hn (ho.seen hf) (by omega) (K6.rl f hf);rw[←hseen] at e7;refine Wp.callN e7 (Wp.obind (z32 _) (Wp.obind (bldFi _ _) (Wp.obind (idxR hf) ?_)));obtain⟨l1,l2,l3,l4,l5⟩:=laid3 (l:=D6) (o:=3*f) (a:=.bool (s.fs f).seen.th) (b:=ze (s.fs f).seen.u) (c:=.nsl) (by omega);refine y32 K6.row (rfl:([.bool (s.fs f).seen.th,ze (s.fs f).seen.u,.nsl]:List AV).length=3) (by omega) rfl fun h7 k7 t7 n7=>?_;rw[e9];exact Wp.ret ⟨by rw[h0],t6.trans t7,_,_,K6.set (x:=z44b (s.fs f)) (v:=.nsl) t7 (fun b hb _=>hb.1) hf k7 (by rw[l1];exact hl6) ⟨l2,l3,l4⟩ l5 (.inl ⟨rfl,rfl⟩) (fun _ hb=>nomatch hb)⟩
 ·have e6h := a6 h0
  subst e6h
  have es:z1fb s z=s:=by
   unfold z1fb;rw[if_neg h0]
  refine y9 (z8d h0) ?_;rw[e9,es];exact Wp.ret ⟨rfl,Tch.refl _ _,RefAt.tch ⟨D,vs,K⟩ (Tch.refl [] _) (fun _ h=>nomatch h) (fun b hb _=>hb.1)⟩
end
open Go.RowKit Abs
section
variable {lo:Nat→Prop}{n d rb B f:Nat}{h:AHeap}{D:List AV}{vs:Nat→AV}{s:DS}
theorem z326{x:FileS}{v:AV}{h1:AHeap}{b1:Nat}(ok:z440 x.sure x.loose B)(hB:B<900000)(rl:RL h v x.loose){k:Nat}(hkl:k≤x.loose.length){hh:AHeap}(e1:z1a hh=.ptr b1 0){k53:AHeap→R}{Q:ARes→AHeap→Prop}{S0:List Nat}(h0:Abs.Mem S0 h h1 [(b1,TSt,zcd x.sure)])(hS0:∀b∈z5d v,b ∉ S0)(hk:∀H,Abs.Mem S0 h H [(b1,TSt,zcd (doL x.sure (x.loose.take k)))]→Wp (k53 H) Q):
  ∀(r i fu:Nat) (H:AHeap),r+i=k→r<fu→Abs.Mem S0 h H [(b1,TSt,zcd (doL x.sure (x.loose.take i)))]→Wp (z5a (world n (d+1)) hh v (k:Int) k53 fu (i:Int) H) Q
 |_,_,0,_,_,hf,_=>by omega
 |0,i,fu+1,H,hi,_,M=>by
  obtain rfl:i=k:=by omega
  rw[zc2];unfold z62;refine Wp.lett (y9 (by rw[decide_eq_false_iff_not];omega) ?_);exact hk H M
 |r+1,i,fu+1,H,hi,hf,M=>by
  have hil:i<x.loose.length:=by omega
  obtain⟨o1,o2,o3,o4⟩:=ok;have hst:=z1e2 x.loose i hil;have hdl:=z131 (x.loose.take i) x.sure;obtain⟨b,o,hb,i1,r1,_⟩:=(rl.tch M.tch hS0).at hil;rw[zc2];unfold z62;refine Wp.lett (yc (by rw[decide_eq_true_eq];omega) ?_);rw[e1];refine y1e M rfl (Wp.obind i1 (Wp.obind r1 ?_));refine Wp.callN (done_r (n:=n) (d:=d) (z371 x.loose x.sure i hil o1) (by omega)) (Wp.obind (z32 _) ?_);refine y18 M rfl rfl rfl fun h5 M5=>yd (by omega) (by omega) ?_;rw[doR_eq (z2e4 x.loose x.sure i hil o2), ←z438 x.sure x.loose hil] at M5;rw[show (i:Int)+1=((i+1:Nat):Int) by omega];exact z326 ⟨o1,o2,o3,o4⟩ hB rl hkl e1 h0 hS0 hk r (i+1) fu h5 (by omega) (by omega) M5
def z119(s:DS)(zs:List Int)(torn:Int)(i:Nat):DS:=⟨fun f=>if f<i then zd1 (s.fs f) (z56 zs f) torn else s.fs f,s.p,s.ops⟩
theorem z3bd(s:DS)(zs:List Int)(torn:Int)(i:Nat):(⟨upd (z119 s zs torn i).fs i (zd1 (s.fs i) (z56 zs i) torn),s.p,s.ops⟩:DS)=z119 s zs torn (i+1):=by
 unfold z119
 congr 1
 funext j
 unfold Go.Proofs.Yteecmjmglmpbpaa.upd;dsimp only
 by_cases e:j=i
 ·subst e
  rw[if_pos rfl,if_pos (Nat.lt_succ_self _)]
 ·rw [if_neg e]
  by_cases e2:j<i
  ·rw[if_pos e2,if_pos (by omega)]
  ·rw[if_neg e2,if_neg (by omega)]
set_option maxHeartbeats 1000000 in
theorem z2b7(hn:1000000<n)(ho:SOk s B)(hB:B<900000){torn:Int}(ht:torn<9223372036854775808){lv:AV}{zs:List Int}{k4:AHeap→R}{Q:ARes→AHeap→Prop}(rd:RdI (fun b=>lo b∨b=rb) h lv zs)(hk:∀H,Tch [rb] h H→RefAt lo H rb (z119 s zs torn 32)→Wp (k4 H) Q):
  ∀(r i fu:Nat) (H:AHeap),r+i=32→r<fu→RefAt lo H rb (z119 s zs torn i)→Tch [rb] h H→Wp (z49 (world n (d+1)) n (.ptr rb 0) lv torn k4 fu (i:Int) H) Q
 |_,_,0,_,_,hf,_,_=>by omega
 |0,i,fu+1,H,hi,hf,K,t=>by
  obtain rfl:i=32:=by omega
  rw[zc3];unfold z63;refine Wp.lett (y9 rfl ?_);exact hk H t K
 |r+1,i,fu+1,H,hi,hf,K,t=>by
  obtain⟨D,vs,K⟩:=K;have hi32:i<32:=by omega
  have C:=K.cells i hi32;have hfs:(z119 s zs torn i).fs i=s.fs i:=if_neg (Nat.lt_irrefl _);have rl0:=K.rl i hi32;rw[hfs] at C rl0;have hlen:=K.len;have hok:=ho.seen hi32;obtain⟨o1,o2,o3,o4⟩:=id hok;rw[zc3];unfold z63;refine Wp.lett (yc (by rw[decide_eq_true_eq];omega) ?_)
  have hsr:z2b H 2 (.ptr rb (3*i+0))=some (zcd (s.fs i).sure):=by
   rw[K.row.ld (by omega)]
   congr 1
   refine List.ext_getElem? fun j=>?_
   rcases j with _|_|j
   ·rw [List.getElem?_take_of_lt (by decide), List.getElem?_drop]
    exact C.c0
   ·rw [List.getElem?_take_of_lt (by decide), List.getElem?_drop]
    exact C.c1
   ·rw[List.getElem?_eq_none (by rw[List.length_take];omega),List.getElem?_eq_none (by show 2≤_;omega)]
  refine Wp.obind (z8 _ _) (Wp.obind (z6 _ _ _) (Wp.obind (idxR hi32) (Wp.obind (z6 _ _ _) (Wp.obind hsr (y15 (Mem.nil [] H) fun h2 M2=>?_)))));have eP:z1a H=.ptr H.next 0:=rfl;rw[eP];refine y18 M2 rfl rfl rfl fun h3 M3=>?_;have t3:=M3.tch;have kr3:=K.row.tch t3 K.hrb (fun h=>nomatch h);have rl3:=rl0.tch t3 (fun _ _ h=>nomatch h);refine Wp.obind (z8 _ _) (Wp.obind (z6 _ _ _) (Wp.obind (idxR hi32) (Wp.obind (z6 _ _ _) (Wp.obind (y3 kr3 C.c2) (Wp.obind rd.1 (Wp.lett (y7 fun j40 e40=>?_)))))));have T3:Tch [rb] h h3:=t.trans (t3.mono fun _ hb=>nomatch hb)
  have next:∀z:Int,z.toNat=(z56 zs i).toNat→0≤z→∀k41:Int→AHeap→R,(k41=fun (t9:Int) (h_42:AHeap)=>
    Abs.obind (z197 (vs i)) fun t47=>
    lett (decide (t9>t47)) fun (t48:Bool)=>
    lett (fun (t9_48:Int) (h_49:AHeap)=>
     lett (fun (h_54:AHeap)=>
      Abs.obind (z197 (vs i)) fun t64=>
      lett (decide (t9_48<t64)) fun (t65:Bool)=>
      lett (fun (t73:Bool) (h_59:AHeap)=>
       lett (fun (t82:Bool) (h_62:AHeap)=>
        lett (fun (t86:Bool) (h_65:AHeap)=>
         lett (fun (h_69:AHeap)=>
          Abs.obind (z2b h_69 2 (.ptr H.next 0)) fun t116=>
          Abs.obind (z36d Try.prog TFi [(0,.agg t116)]) fun t117=>
          Abs.obind (z34 (.ptr rb 0)) fun t118=>
          Abs.obind (z20 0 t118) fun t119=>
          Abs.obind (z17b 32 3 t119 (i:Int)) fun t120=>
          Abs.obind (z27 h_69 3 t117 t120) fun h_75=>
          lett (IntKind.i64.wrap ((i:Int)+1)) fun (t15:Int)=>
          z49 (world n (d+1)) n (.ptr rb 0) lv torn k4 fu t15 h_75) fun k68=>
         ifB t86
         (
          Abs.obind (z18d 3 (vs i) t9_48) fun t91=>
          Abs.obind (z20 1 t91) fun t92=>
          Abs.obind (z9 h_65 t92) fun v93=>
          Abs.obind (z31 v93) fun t93=>
          lett (IntKind.i64.wrap ((z7e t93) - 1)) fun (t95:Int)=>
          lett (decide (torn>t95)) fun (t96:Bool)=>
          lett (fun (t11:Int) (h_88:AHeap)=>
           Abs.obind (z2b h_88 2 (.ptr H.next 0)) fun t104=>
           Abs.obind (z18d 3 (vs i) t9_48) fun t107=>
           Abs.obind (z20 1 t107) fun t108=>
           Abs.obind (z9 h_88 t108) fun v109=>
           Abs.obind (z31 v109) fun t109=>
           Abs.obind (z5f t109 0 t11) fun t111=>
           Abs.callN (world n (d+1) 50 [.agg t104,.agg ([.int .i64 1,ze t111,.int .i64 0]:List AV)] h_88) fun r113 h_95=>
           Abs.obind (z132 r113) fun t113=>
           Abs.obind (z27 h_95 2 t113 (.ptr H.next 0)) fun h_98=>
           k68 h_98) fun k87=>
          ifB t96
          (
           Abs.obind (z18d 3 (vs i) t9_48) fun t99=>
           Abs.obind (z20 1 t99) fun t100=>
           Abs.obind (z9 h_65 t100) fun v101=>
           Abs.obind (z31 v101) fun t101=>
           lett (IntKind.i64.wrap ((z7e t101) - 1)) fun (t103:Int)=>
           k87 t103 h_65)
          (
           k87 torn h_65))
         (
          k68 h_65)) fun j86=>
        ifB t82
        (
         lett (decide (torn>0)) fun (t85:Bool)=>
         j86 t85 h_62)
        (
         j86 false h_62)) fun j82=>
       ifB t73
       (
        Abs.obind (z18d 3 (vs i) t9_48) fun t77=>
        Abs.obind (z20 1 t77) fun t78=>
        Abs.obind (z9 h_59 t78) fun v79=>
        Abs.obind (z31 v79) fun t79=>
        lett (decide ((z7e t79)>0)) fun (t81:Bool)=>
        j82 t81 h_59)
       (
        j82 false h_59)) fun j73=>
      ifB t65
      (
       Abs.obind (z18d 3 (vs i) t9_48) fun t69=>
       Abs.obind (z20 0 t69) fun t70=>
       Abs.obind (z9 h_54 t70) fun v71=>
       Abs.obind (z17 .i64 v71) fun t71=>
       lett ((t71:Int) == 1) fun (t72:Bool)=>
       j73 t72 h_54)
      (
       j73 false h_54)) fun k53=>
     z5a (world n (d+1)) H (vs i) t9_48 k53 n 0 h_49) fun k47=>
    ifB t48
    (
     Abs.obind (z197 (vs i)) fun t50=>
     k47 t50 h_42)
    (
     k47 t9 h_42))→Wp (k41 z h3) Q:=by
   intro z hz hz0 k41 e41;obtain⟨k,hkk⟩:∃k,k=z1f3 (s.fs i) (z56 zs i):=⟨_,rfl⟩;have hkd:k=min (z56 zs i).toNat (s.fs i).loose.length:=hkk;have hkl:k≤(s.fs i).loose.length:=by omega
   rw[e41];refine Wp.obind rl0.len (Wp.lett (y7 fun k47 e47=>?_))
   have h47:Wp (k47 (k:Int) h3) Q:=by
    rw[e47];refine y7 fun k53 e53=>?_;refine z326 (x:=s.fs i) (h:=H) (b1:=H.next) (h1:=h3) (S0:=[]) hok hB rl0 hkl eP M3 (fun _ _ h=>nomatch h) (fun H4 M4=>?_) k 0 n h3 (Nat.add_zero _) (by omega) M3;have t4:=M4.tch;have rl4:=rl0.tch t4 (fun _ _ h=>nomatch h)
    have hcc:zbe (s.fs i) (z56 zs i) torn=match (s.fs i).loose[k]? with
      |some c=>if z335 c torn then do1 (doL (s.fs i).sure ((s.fs i).loose.take k)) (z1c9 c torn) else doL (s.fs i).sure ((s.fs i).loose.take k)
      |none=>doL (s.fs i).sure ((s.fs i).loose.take k):=by
     rw[hkk];rfl
    rw[e53];refine Wp.obind rl0.len (Wp.lett (y7 fun j73 e73=>?_))
    have fin:∀(H6:AHeap) (k68:AHeap→R),Abs.Mem [] H H6 [(H.next,TSt,zcd (zbe (s.fs i) (z56 zs i) torn))]→(k68=fun (h_69:AHeap)=>
          Abs.obind (z2b h_69 2 (.ptr H.next 0)) fun t116=>
          Abs.obind (z36d Try.prog TFi [(0,.agg t116)]) fun t117=>
          Abs.obind (z34 (.ptr rb 0)) fun t118=>
          Abs.obind (z20 0 t118) fun t119=>
          Abs.obind (z17b 32 3 t119 (i:Int)) fun t120=>
          Abs.obind (z27 h_69 3 t117 t120) fun h_75=>
          lett (IntKind.i64.wrap ((i:Int)+1)) fun (t15:Int)=>
          z49 (world n (d+1)) n (.ptr rb 0) lv torn k4 fu t15 h_75)→Wp (k68 H6) Q:=by
     intro H6 k68 M6 e68;have t6:=M6.tch;have K6:RefD lo H6 rb D vs (z119 s zs torn i):=K.tch t6 (fun _ h=>nomatch h) (fun _ h _=>h);have hl6:=K6.len;rw[e68];refine y1e M6 rfl (Wp.obind (bldFi _ _) (Wp.obind (z8 _ _) (Wp.obind (z6 _ _ _) (Wp.obind (idxR hi32) ?_))));obtain⟨l1,l2,l3,l4,l5⟩:=laid3 (l:=D) (o:=3*i) (a:=.bool (zbe (s.fs i) (z56 zs i) torn).th) (b:=ze (zbe (s.fs i) (z56 zs i) torn).u) (c:=.nsl) (by omega);refine y32 K6.row (rfl:([.bool (zbe (s.fs i) (z56 zs i) torn).th,ze (zbe (s.fs i) (z56 zs i) torn).u,.nsl]:List AV).length=3) (by omega) rfl fun h7 k7 t7 n7=>?_;refine yd (by omega) (by omega) ?_;rw[show (i:Int)+1=((i+1:Nat):Int) by omega];have K7:=K6.set (lo':=lo) (x:=zd1 (s.fs i) (z56 zs i) torn) (v:=.nsl) t7 (fun _ h _=>h) hi32 k7 (by rw[l1];exact hlen) ⟨l2,l3,l4⟩ l5 (.inl ⟨rfl,rfl⟩) (fun _ hb=>nomatch hb);have es:(⟨upd (z119 s zs torn i).fs i (zd1 (s.fs i) (z56 zs i) torn),(z119 s zs torn i).p,(z119 s zs torn i).ops⟩:DS)=z119 s zs torn (i+1):=z3bd s zs torn i;rw[es] at K7;exact z2b7 hn ho hB ht rd hk r (i+1) fu h7 (by omega) (by omega) ⟨_,_,K7⟩ ((t.trans (t6.mono fun _ hb=>nomatch hb)).trans t7)
    have stay:zbe (s.fs i) (z56 zs i) torn=doL (s.fs i).sure ((s.fs i).loose.take k)→Wp (j73 false H4) Q:=fun hs=>by
     rw[e73];refine y7 fun j82 e82=>y9 rfl ?_;rw[e82];refine y7 fun j86 e86=>y9 rfl ?_;rw[e86];refine y7 fun k68 e68=>y9 rfl ?_;exact fin H4 k68 (by rw[hs];exact M4) e68
    by_cases h1:k<(s.fs i).loose.length
    ·obtain ⟨c, hc⟩ : ∃ c, c = (s.fs i).loose[k] := ⟨_, rfl⟩
     rw[List.getElem?_eq_getElem h1, ←hc] at hcc;have hcc:zbe (s.fs i) (z56 zs i) torn=if z335 c torn then do1 (doL (s.fs i).sure ((s.fs i).loose.take k)) (z1c9 c torn) else doL (s.fs i).sure ((s.fs i).loose.take k):=hcc
     have hat:=z1e2 (s.fs i).loose k h1;rw[←hc] at hat;have hdl:=z131 ((s.fs i).loose.take k) (s.fs i).sure;obtain⟨b,o,hb,i1,r1,q0,q1⟩:=rl4.at h1;rw[←hc] at q0 q1;refine yc (by rw[decide_eq_true_eq];omega) (Wp.obind i1 (Wp.obind (z6 _ _ _) (Wp.obind q0 (Wp.obind (z5 _ _) (Wp.lett ?_)))))
     by_cases h2:c.k=0
     ·have hll := z4e c.s
      rw[show ((c.k:Int)+1 == 1)=true from zbb (by omega),e73];refine y7 fun j82 e82=>yc rfl (Wp.obind i1 (Wp.obind (z6 _ _ _) (Wp.obind q1 (Wp.obind (z16 _) (Wp.lett ?_)))))
      by_cases h3:c.s=[]
      ·have : z7e c.s = 0 := by rw [h3]; rfl
       rw[decide_eq_false (show ¬z7e c.s>0 by omega),e82];refine y7 fun j86 e86=>y9 rfl ?_;rw[e86];refine y7 fun k68 e68=>y9 rfl ?_;rw[if_neg (fun h=>h.2.2 h3)] at hcc;exact fin H4 k68 (by rw[hcc];exact M4) e68
      ·have hsl : 0 < c.s.length := List.length_pos_iff.2 h3
       rw[decide_eq_true (show z7e c.s>0 by omega),e82];refine y7 fun j86 e86=>yc rfl (Wp.lett ?_)
       by_cases h4:0<torn
       ·rw [decide_eq_true (show torn > 0 from h4), e86]
        rw[if_pos (show z335 c torn from ⟨h4,h2,h3⟩)] at hcc;refine y7 fun k68 e68=>yc rfl (Wp.obind i1 (Wp.obind (z6 _ _ _) (Wp.obind q1 (Wp.obind (z16 _) (yd (by omega) (by omega) (Wp.lett (y7 fun k87 e87=>?_)))))))
        have g87:Wp (k87 (min torn ((c.s.length:Int) - 1)) H4) Q:=by
         rw[e87];have hs0:=z58 (l:=c.s) (a:=0) (b:=min torn ((c.s.length:Int) - 1)) (by omega) (by omega) (by omega);rw[show (0:Int).toNat=0 from rfl,List.drop_zero,Nat.sub_zero] at hs0
         have htl:(c.s.take (min torn ((c.s.length:Int) - 1)).toNat).length≤c.s.length:=by
          rw[List.length_take];exact Nat.min_le_right _ _
         refine y1e M4 rfl (Wp.obind i1 (Wp.obind (z6 _ _ _) (Wp.obind q1 (Wp.obind (z16 _) (Wp.obind hs0 ?_)))));refine Wp.callN (done_r (n:=n) (d:=d) (x:=doL (s.fs i).sure ((s.fs i).loose.take k)) (c:=⟨0,c.s.take (min torn ((c.s.length:Int) - 1)).toNat,0⟩) (.inl rfl) (by show _+(c.s.take _).length≤_;omega)) (Wp.obind (z32 _) ?_);refine y18 M4 rfl rfl rfl fun h9 M9=>?_
         have ed:doR (doL (s.fs i).sure ((s.fs i).loose.take k)) ⟨0,c.s.take (min torn ((c.s.length:Int) - 1)).toNat,0⟩=do1 (doL (s.fs i).sure ((s.fs i).loose.take k)) (z1c9 c torn):=by
          unfold doR do1;exact(if_pos rfl).trans (if_pos rfl).symm
         rw[ed, ←hcc] at M9;exact fin h9 k68 M9 e68
        by_cases h5:torn>z7e c.s - 1
        ·refine yc (decide_eq_true h5) (Wp.obind i1 (Wp.obind (z6 _ _ _) (Wp.obind q1 (Wp.obind (z16 _) (yd (by omega) (by omega) ?_)))))
         rw[show z7e c.s - 1=min torn ((c.s.length:Int) - 1) by omega];exact g87
        ·refine y9 (decide_eq_false h5) ?_
         have em:min torn ((c.s.length:Int) - 1)=torn:=by omega
         rw[em] at g87;exact g87
       ·rw [decide_eq_false (show ¬ torn > 0 from h4), e86]
        rw[if_neg (fun h=>h4 h.1)] at hcc;refine y7 fun k68 e68=>y9 rfl ?_;exact fin H4 k68 (by rw[hcc];exact M4) e68
     ·rw [show ((c.k : Int) + 1 == 1) = false from z8d (by omega)]
      exact stay (by rw[hcc,if_neg (fun h=>h2 h.2.1)])
    ·rw [List.getElem?_eq_none (by omega)] at hcc
     refine y9 (by rw[decide_eq_false_iff_not];omega) ?_;exact stay hcc
   by_cases h1:z>((s.fs i).loose.length:Int)
   ·refine yc (decide_eq_true h1) (Wp.obind rl0.len ?_)
    rw[show ((s.fs i).loose.length:Int)=(k:Int) by omega];exact h47
   ·refine y9 (decide_eq_false h1) ?_
    rw[show z=(k:Int) by omega];exact h47
  by_cases h1:i<zs.length
  ·obtain ⟨pp, q1, q2⟩ := rd.2 [rb] h3 T3 (fun b hb => .inr (List.mem_singleton.1 hb)) i h1
   have hka:z56 zs i=zs[i]:=by
    unfold z56;rw[List.getD_eq_getElem?_getD,List.getElem?_eq_getElem h1];rfl
   refine yc (by rw[decide_eq_true_eq];omega) (Wp.obind q1 (Wp.obind q2 (Wp.obind (z5 _ _) (Wp.lett ?_))));rw[e40]
   by_cases h2:zs[i]>0
   ·rw [decide_eq_true h2]
    refine y7 fun k41 e41=>yc rfl (Wp.obind q1 (Wp.obind q2 (Wp.obind (z5 _ _) ?_)));exact next _ (by rw[hka]) (by omega) k41 e41
   ·rw [decide_eq_false h2]
    refine y7 fun k41 e41=>y9 rfl ?_;exact next 0 (by rw[hka];omega) (by omega) k41 e41
  ·have hka : z56 zs i = 0 := by
    unfold z56;rw[List.getD_eq_getElem?_getD,List.getElem?_eq_none (by omega)];rfl
   refine y9 (by rw[decide_eq_false_iff_not];omega) ?_;rw[e40];refine y7 fun k41 e41=>y9 rfl ?_;exact next 0 (by rw[hka]) (by omega) k41 e41
theorem crash_r(hn:1000000<n)(K:RefAt lo h rb s)(ho:SOk s B)(hB:B<900000){torn:Int}(ht:torn<9223372036854775808){lv:AV}{zs:List Int}(rd:RdI (fun b=>lo b∨b=rb) h lv zs):
  ∃h',world n (d+2) 25 [.ptr rb 0,lv,.int .i64 torn] h=some (.ret (.tup []),h')∧Tch [rb] h h'∧RefAt lo h' rb (z27e s zs torn):=by
 suffices hK:Wp (world n (d+2) 25 [.ptr rb 0,lv,.int .i64 torn] h) fun r h'=>r=.ret (.tup [])∧Tch [rb] h h'∧RefAt lo h' rb (z27e s zs torn) by
  obtain⟨_,h',e,rfl,k⟩:=hK;exact⟨h',e,k⟩
 rw[z207];unfold z7d;refine y7 fun k4 e4=>?_
 have e0:z119 s zs torn 0=s:=by
  unfold z119
  have:(fun f=>if f<0 then zd1 (s.fs f) (z56 zs f) torn else s.fs f)=s.fs:=by
   funext j
   rw[if_neg (Nat.not_lt_zero _)]
  rw[this]
 refine z2b7 (s:=s) hn ho hB ht rd (fun H t K'=>?_) 32 0 n h rfl (by omega) (by rw[e0];exact K) (Tch.refl _ _);obtain⟨D,vs,K'⟩:=K';have hl:=K'.len;rw[e4];refine Wp.obind (z8 _ _) (Wp.obind (z6 _ _ _) ?_);refine Wp.st1 K'.row (show 0+96<D.length by omega) rfl fun h2 k2 t2 n2=>?_;refine Wp.ret ⟨rfl,t.trans t2,_,_,K'.po (p':= -1) (o':=s.ops) t2 (fun _ h _=>h) k2 (by rw[List.length_set];exact hl) (fun i hi=>by rw[List.getElem?_set_ne (by omega)]) (by rw[Nat.zero_add,List.getElem?_set_self (by omega)]) (by rw[List.getElem?_set_ne (by omega)];exact K'.co)⟩
end
section
variable {lo lo':Nat→Prop}{n d rb B:Nat}{h:AHeap}{D:List AV}{vs:Nat→AV}{s:DS}
theorem newR_ok(hlo:¬lo h.next):∃h',world n (d+1) 20 [] h=some (.ret (.ptr h.next 0),h')∧Tch [] h h'∧RefAt lo h' h.next newS∧h.next<h'.next:=by
 suffices hK:Wp (z152 (world n d) n h) fun r h'=>r=.ret (.ptr h.next 0)∧Tch [] h h'∧RefAt lo h' h.next newS∧h.next<h'.next by
  obtain⟨r,h',e,rfl,k⟩:=hK;refine⟨h',?_,k⟩;rw[z3d1,e];refine z355 ?_;show Nat.blt h.next h.next=false
  cases e:Nat.blt h.next h.next with
  |false=>rfl
  |true=>
   have:=blt_lt' e;omega
 unfold z152;refine Wp.outK (z406 (by kernel_rfl)) ?_
 have fin:∀L:List AV,L=(List.replicate 32 [.bool false,.str 0 0,.nsl]).flatten++[.int .i64 (-1),.int .i64 0]→RefAt lo (Abs.newH h TRD L) h.next newS:=by
  intro L hL;refine⟨L,fun _=>.nsl,RowH.new _ _ _,Nat.lt_succ_self _,hlo,by rw[hL];kernel_rfl,fun f hf=>?_,by rw[hL];kernel_rfl,by rw[hL];kernel_rfl,fun f hf=>.inl ⟨rfl,rfl⟩,fun f hf b hb=>nomatch hb⟩;rw[hL];exact⟨z13b rfl 32 f 0 hf (by decide),z13b rfl 32 f 1 hf (by decide),z13b rfl 32 f 2 hf (by decide)⟩
 exact Wp.ret ⟨rfl,Tch.newH _ _ _ _,fin _ rfl,Nat.lt_succ_self _⟩
end
theorem rdi_nil(lo:Nat→Prop)(h:AHeap):RdI lo h .nsl []:=⟨rfl,fun _ _ _ _ _ hi=>absurd hi (Nat.not_lt_zero _)⟩
section
variable {n d D:Nat}{H:AHeap}
theorem fresh{N:Nat}(hX:H.ex=[])(hn:1000000000<n)(hN:N≤H.next):∃H1,wL n (D+6) (d+6) false 9 [] H=some (.ret (.ptr H.next 0),H1)∧Tch [] H H1∧∃lo' H' xb' S s' x',wL n (D+6) (d+6) false 10 [.ptr H.next 0] H1=some (.ret (.tup [.ptr xb' 0,.int .i64 0]),H')∧Sy N lo' H' H.next xb' s' x' 6 ne0∧s'.p= -1∧Tch S H1 H'∧(∀b∈S,N≤b)∧∀b,lo' b→H.next≤b:=by
 obtain⟨H1,e1,K,t1⟩:=new_ok (n:=n) (d:=D+5) (h:=H) hX;have C:=new_crd hN K t1;obtain⟨lo',H',xb',S,s',x',e,Y,hp,L,_,t,hS⟩:=C.open (D:=D) (d:=d) hn (by decide);exact⟨H1,(z293 9).trans e1,t1,lo',H',xb',S,s',x',e,Y,hp,t,fun b hb=>Nat.le_trans hN (hS b hb),fun b hb=>L b hb⟩
theorem works_w(hX:H.ex=[])(hn:1000000000<n):∃H',wL n (D+6) (d+7) false 8 [] H=some (.ret (.bool true),H')∧∃S,Tch S H H'∧∀b∈S,H.next≤b:=by
 suffices hK:Wp (zea ((wL n (D+6) (d+6)) false) n H) fun r H'=>r=.ret (.bool true)∧∃S,Tch S H H'∧∀b∈S,H.next≤b by
  obtain⟨_,H',e,rfl,k⟩:=hK;exact⟨H',z2ed n (D+6) (d+6) e,k⟩
 unfold zea;obtain⟨H1,e1,t1,lo2,H2,xb,S2,s2,x2,e2,Y2,hp2,t2,hS2,_⟩:=fresh (D:=D) (d:=d) (N:=H.next) hX hn (Nat.le_refl _);refine Wp.callN e1 (Wp.callN e2 (Wp.obind (zd0 _ _) (Wp.obind (zcf _ _ _) (Wp.obind (z5 _ _) (Wp.lett (y7 fun j15 e15=>y9 rfl (Wp.outK (eqBox xb H2) (Wp.obind (z13 _) ?_))))))));rw[e15];obtain⟨H3,e3,t3⟩:=Y2.now (n:=n) (D:=D) (d:=d+5);have Y3:=Y2.alloc t3;refine y7 fun j21 e21=>y9 rfl (Wp.callN e3 (Wp.obind (z32 _) (Wp.obind (eqBal _ _ _ _) (Wp.lett ?_))));rw[e21];obtain⟨lo4,H4,S4,e,s4,x4,e4,L4,t4,hS4,hok,hcase⟩:=Y3.write (n:=n) (D:=D) (d:=d+5) (by omega) (by decide) 1 2;have h0:e=0:=hok hp2 (by decide) (by decide) (by decide);subst h0;refine y7 fun j27 e27=>y9 rfl (Wp.callN e4 (Wp.obind (z5 _ _) (Wp.lett ?_)));rw[e27]
 rcases hcase with⟨h,_⟩|⟨_,m',hm1,hm2,_,Y4⟩|⟨h,_⟩
 ·rcases h with h|h<;>cases h
 ·obtain ⟨H5, S5, s5, e5, C5, t5, hS5⟩ := Y4.crash (n := n) (D := D) (d := d + 5) (by omega) (by decide) (torn := 0) (by decide) (zs := []) (by decide) (rdi_nil _ _)
  refine y7 fun j32 e32=>y9 rfl (Wp.callN e5 (Wp.obind (z5 _ _) (Wp.lett ?_)));rw[e32];obtain⟨lo6,H6,xb6,S6,s6,x6,e6,Y6,_,L6,_,t6,hS6⟩:=C5.open (n:=n) (D:=D) (d:=d) hn (by decide);refine y9 rfl (Wp.callN e6 (Wp.obind (zd0 _ _) (Wp.obind (zcf _ _ _) (Wp.obind (z5 _ _) (Wp.lett (y7 fun j43 e43=>yc rfl (Wp.outK (z4ab xb6 H6) (Wp.obind (z13 _) ?_))))))));rw[e43];obtain⟨H7,e7,t7⟩:=Y6.now (n:=n) (D:=D) (d:=d+5);refine y7 fun j49 e49=>yc rfl (Wp.callN e7 (Wp.obind (z32 _) (Wp.obind (eqBal _ _ _ _) ?_)));rw[e49,hm1,hm2];refine Wp.ret ⟨rfl,S2++(S4++(S5++S6)),?_,fun b hb=>?_⟩
  ·exact(((((((t1.mono fun _ h=>nomatch h).trans (t2.mono fun b hb=>.inl (List.mem_append_left _ hb))).trans (t3.mono fun _ h=>nomatch h)).trans (t4.mono fun b hb=>.inl (List.mem_append_right _ (List.mem_append_left _ hb)))).trans (t5.mono fun b hb=>.inl (List.mem_append_right _ (List.mem_append_right _ (List.mem_append_left _ hb))))).trans (t6.mono fun b hb=>.inl (List.mem_append_right _ (List.mem_append_right _ (List.mem_append_right _ hb)))))).trans (t7.mono fun _ h=>nomatch h)
  ·rcases List.mem_append.1 hb with hb | hb
   ·exact hS2 b hb
   rcases List.mem_append.1 hb with hb|hb
   ·rcases hS4 b hb with h | h
    ·exact Y3.hl b h
    ·exact h▸Y3.hx
   rcases List.mem_append.1 hb with hb|hb
   ·exact Y4.hl b (hS5 b hb)
   ·exact C5.hl b (hS6 b hb)
 ·cases h
end
theorem slc_rdi{lo:Nat→Prop}{N:Nat}{h:AHeap}{v:AV}{zs:List Int}(k:Slc N h 1 v (zs.map fun z=>[.int .i64 z]))(hN:N≤h.next)(hl:∀b,lo b→N≤b):RdI lo h v zs:=by
 refine⟨by have:=k.len;rw[List.length_map] at this;exact this,fun S H t hS i hi=>?_⟩;obtain⟨b,_,h1,h2⟩:=(k.tch t hN fun b hb=>hl b (hS b hb)).cell (f:=.int .i64) hi;exact⟨_,h1,h2⟩
abbrev TSp:Nat:=49
structure Sp where
 k:Int
 n:Int
 t:Int
 f:Int
 s:zf
 v:AV
noncomputable def spC(x:Sp):List AV:=[.int .i64 x.k,.int .i64 x.n,.int .i64 x.t,.int .i64 x.f,ze x.s,x.v]
def SpOk(N:Nat)(h:AHeap)(x:Sp):Prop:=I64 x.k∧I64 x.n∧x.s.length≤reachBytes∧∃zs:List Int,Slc N h 1 x.v (zs.map fun z=>[.int .i64 z])∧zs.length<9223372036854775808
def z415:List Sp→Nat
 |[]=>0
 |c::l=>c.s.length+z415 l
theorem sp_one{x:Sp}(hv:x.v.one=true):(spC x).all AV.one=true:=by
 show (true&&(true&&(true&&(true&&(true&&(x.v.one&&true))))))=true;rw[hv];rfl
theorem SpOk.one{N:Nat}{h:AHeap}{x:Sp}(k:SpOk N h x):x.v.one=true:=by
 obtain⟨_,_,_,zs,hs,_⟩:=k
 rcases hs.2 with⟨_,e|e⟩|⟨b,_,_,e,_⟩<;>rw[e]<;>rfl
set_option maxRecDepth 100000 in
theorem sp_of{N m:Nat}{h:AHeap}{l:List AV}(hp:Plain Try.prog N h (m+4) TSp l):∃x:Sp,l=spC x∧SpOk N h x:=by
 obtain⟨ls,rfl,hlen,hf⟩:=hp.structEach Try.underlying49
 obtain⟨l0,l1,l2,l3,l4,rfl⟩:∃l0 l1 l2 l3 l4,ls=[l0,l1,l2,l3,l4]:=by
  match ls,hlen with
  |[a,b,c,d,e],_=>exact⟨a,b,c,d,e,rfl⟩
 obtain⟨z0,rfl,w0⟩:=(hf 0 _ _ rfl rfl).int Try.underlying3;obtain⟨z1,rfl,w1⟩:=(hf 1 _ _ rfl rfl).int Try.underlying3;obtain⟨ms,rfl,hml,hmf⟩:=(hf 2 _ _ rfl rfl).structEach Try.underlying31
 obtain⟨m0,m1,rfl⟩:∃m0 m1,ms=[m0,m1]:=by
  match ms,hml with
  |[a,b],_=>exact⟨a,b,rfl⟩
 obtain⟨y0,rfl,_⟩:=(hmf 0 _ _ rfl rfl).int Try.underlying3;obtain⟨y1,rfl,_⟩:=(hmf 1 _ _ rfl rfl).int Try.underlying3;obtain⟨u,rfl,w3⟩:=(hf 3 _ _ rfl rfl).str Try.underlying9;obtain⟨x,ks,rfl,w4,w5,w6⟩:=(hf 4 _ _ rfl rfl).slice Try.underlying32;obtain⟨zs,rfl,w7⟩:=ints_of Try.underlying3 w6;have hc:Try.prog.cellsOf 3=1:=by kernel_rfl
 have hb:Try.prog.bytesOf 3=8:=by kernel_rfl
 have hrb:reachBytes=140737488351232:=rfl;rw[hc] at w4;rw[hb,List.length_map] at w5;exact⟨⟨z0,z1,y0,y1,u,x⟩,rfl,wf_i64 w0,wf_i64 w1,w3,zs,w4,by omega⟩
set_option maxRecDepth 100000 in
theorem sps_of{N m:Nat}{h:AHeap}{a:AV}(hp:ArgP Try.prog N h (m+5) 41 a):∃xs:List Sp,Slc N h 6 a (xs.map spC)∧(∀x∈xs,SpOk N h x)∧xs.length≤reachBytes:=by
 obtain⟨ls,h1,h2,h3⟩:=hp.slice Try.underlying41;obtain⟨xs,rfl,h4⟩:=z4b0 (f:=spC) (Q:=SpOk N h) ls fun l hl=>sp_of (h3 l hl);have hc:Try.prog.cellsOf TSp=6:=by kernel_rfl
 have hb:Try.prog.bytesOf TSp=72:=by kernel_rfl
 rw[hc] at h1;rw[hb,List.length_map] at h2;exact⟨xs,h1,h4,by omega⟩
section
variable {n d D N:Nat}{h:AHeap}{a:AV}{xs:List Sp}
theorem z319(hs:Slc N h 6 a (xs.map spC))(hN:N≤h.next)(ho:∀x∈xs,x.s.length≤reachBytes∧x.v.one=true){k7:AHeap→R}{Q:ARes→AHeap→Prop}(hk:∀H,Tch [] h H→z415 xs≤4096→Wp (k7 H) Q)(hq:∀H,Tch [] h H→Q (.ret (.bool true)) H):
  ∀(todo:List Sp) (i fu t:Nat) (H:AHeap),xs.drop i=todo→todo.length<fu→t≤4096→t+z415 todo=z415 xs→Tch [] h H→xs.length≤reachBytes→Wp (ze1 a (xs.length:Int) k7 fu (t:Int) (i:Int) H) Q
 |_,_,0,_,_,_,hf,_,_,_,_=>by omega
 |[],i,fu+1,t,H,hd,hf,ht,hsum,T,_=>by
  have:=dropN hd;rw[z12f];unfold zc5;refine Wp.lett (y9 (by rw[decide_eq_false_iff_not];omega) ?_);exact hk H T (by have h0:z415 []=0:=rfl;omega)
 |c::todo,i,fu+1,t,H,hd,hf,ht,hsum,T,hl=>by
  obtain⟨hi,hci,hd2⟩:=dropC hd;rw[List.length_cons] at hf;have hrb:reachBytes=140737488351232:=rfl;have hs2:=hs.tch T hN (fun b hb=>nomatch hb);obtain⟨b,hb,e1,e2⟩:=hs2.row (i:=i) (by rw[List.length_map];exact hi);rw[List.getElem_map,hci] at e2;obtain⟨hc,hv1⟩:=ho c (hci▸List.getElem_mem hi);have hss:z415 (c::todo)=c.s.length+z415 todo:=rfl;rw[z12f];unfold zc5;refine Wp.lett (yc (by rw[decide_eq_true_eq];omega) (Wp.obind e1 (Wp.obind e2 (y15 (Mem.nil [] H) fun h2 M2=>?_))));rw[z35];refine y18 M2 rfl rfl (sp_one hv1) fun h3 M3=>?_;have t3:=M3.tch;have T3:=T.trans t3;have g4:(spC c)[4]? =some (ze c.s):=rfl;have hlc:=z4e c.s;refine y27 M3 g4 (Wp.obind (z16 _) (yd (by omega) (by omega) (Wp.lett ?_)))
  by_cases h1:(c.s.length:Int)>4096 - (t:Int)
  ·refine yc (by rw [decide_eq_true_eq]; omega) ?_
   exact Wp.ret (hq _ T3)
  ·refine y9 (by rw [decide_eq_false_iff_not]; omega) ?_
   refine y27 M3 g4 (Wp.obind (z16 _) (yd (by omega) (by omega) (yd (by omega) (by omega) ?_)));rw[show (t:Int)+z7e c.s=((t+c.s.length:Nat):Int) by omega,show (i:Int)+1=((i+1:Nat):Int) by omega];exact z319 hs hN ho hk hq todo (i+1) fu (t+c.s.length) h3 hd2 (by omega) (by omega) (by omega) T3 hl
theorem heavy_w(hs:Slc N h 6 a (xs.map spC))(hN:N≤h.next)(ho:∀x∈xs,x.s.length≤reachBytes∧x.v.one=true)(hl:xs.length≤reachBytes)(hn:reachBytes<n):∃h' b,wL n D (d+1) false 19 [a] h=some (.ret (.bool b),h')∧Tch [] h h'∧(b=false→z415 xs≤4096∧xs.length≤100):=by
 suffices hK:Wp (zeb (wL n D d false) n a h) fun r h'=>∃b,r=.ret (.bool b)∧Tch [] h h'∧(b=false→z415 xs≤4096∧xs.length≤100) by
  obtain⟨_,h',e,b,rfl,k⟩:=hK;exact⟨h',b,z2ee n D d _ e,k⟩
 unfold zeb;have hlen:=hs.len;rw[List.length_map] at hlen;refine Wp.obind hlen (y7 fun k7 e7=>?_);refine z319 hs hN ho (fun H T hsum=>?_) (fun H T=>⟨true,rfl,T,fun h=>nomatch h⟩) xs 0 n 0 h rfl (by omega) (by omega) (by omega) (Tch.refl _ _) hl;rw[e7];refine Wp.obind hlen (Wp.lett (Wp.ret ⟨_,rfl,T,fun h=>?_⟩));rw[decide_eq_false_iff_not] at h;exact⟨hsum,by omega⟩
end
def putI(k v:Int):List (Int×Int)→List (Int×Int)
 |[]=>[(k,v)]
 |p::l=>if k=p.1 then (k,v)::l else p::putI k v l
def Vt(l:List (Int×Int))(t f:Int):Prop:=∀p∈l,0≤p.2∧(p.1<t∨(p.1=t∧p.2=f))
theorem Vt.put{t f:Int}(hf:0≤f):∀{l:List (Int×Int)},Vt l t f→Vt (putI t f l) t f
 |[],_=>fun p hp=>by
  rw[List.mem_singleton.1 hp];exact⟨hf,.inr ⟨rfl,rfl⟩⟩
 |q::l,V=>fun p hp=>by
  unfold putI at hp
  split at hp
  ·rcases List.mem_cons.1 hp with rfl | hp
   ·exact⟨hf,.inr ⟨rfl,rfl⟩⟩
   ·exact V p (List.mem_cons_of_mem _ hp)
  ·rcases List.mem_cons.1 hp with rfl | hp
   ·exact V p (List.mem_cons_self ..)
   ·exact Vt.put hf (fun p hp=>V p (List.mem_cons_of_mem _ hp)) p hp
def LTS(s:DS):Prop:=∀f,f<32→z1af (s.fs f).sure (s.fs f).loose
theorem SOk.of{lo:Nat→Prop}{h:AHeap}{db B:Nat}{s:DS}(K:At lo h db s B)(L:LTS s):SOk s B:=by
 obtain⟨D,vs,K⟩:=K;exact⟨K.ok,L,K.hp,K.ho⟩
theorem own_th{x:FileS}{c:Chg}(h:z2e6 x c=0)(hk:c.k=1):x.seen.th=true:=by
 unfold z2e6 at h;rw[if_neg (by omega)] at h
 split at h
 ·omega
 ·rename_i h1
  cases e:x.seen.th with
  |true=>rfl
  |false=>exact absurd e h1
theorem LTS.upd{s:DS}{z:Nat}{x:FileS}{p:Int}{o:Nat}(L:LTS s)(hx:z1af x.sure x.loose):LTS ⟨upd s.fs z x,p,o⟩:=by
 intro f hf;show z1af (Go.Proofs.Yteecmjmglmpbpaa.upd s.fs z x f).sure (Go.Proofs.Yteecmjmglmpbpaa.upd s.fs z x f).loose;unfold Go.Proofs.Yteecmjmglmpbpaa.upd
 by_cases e:f=z
 ·rw [if_pos e]
  exact hx
 ·rw [if_neg e]
  exact L f hf
theorem LTS.act{s:DS}{B:Nat}{z:Int}{c:Chg}(k:SOk s B):LTS (z15d s z c):=by
 by_cases h0:z121 s z c=0
 ·have h1 := h0
  rw[z1aa] at h1;obtain⟨hp,f,rfl,hf⟩:=z3d8 h1
  have r0:zd7 s.p (f:Int)=0:=by
   unfold zd7;rw[if_neg hp,if_pos (by omega)]
  rw[z15a r0] at h0;rw[z23b r0 h0];refine LTS.upd k.lt ?_;show z1af (s.fs f).sure ((s.fs f).loose++[c]);exact z2e3 _ _ _ (k.lt f hf) (fun hk=>by rw[←(k.ok f hf).1];exact own_th h0 hk)
 ·rw [z162 h0]
  exact k.lt
theorem LTS.syn{s:DS}(L:LTS s)(z:Int):LTS (z1fb s z):=by
 unfold z1fb
 split
 ·exact LTS.upd L trivial
 ·exact L
theorem LTS.crash(s:DS)(zs:List Int)(torn:Int):LTS (z27e s zs torn):=by
 intro f hf;show z1af (if f<32 then zd1 (s.fs f) (z56 zs f) torn else s.fs f).sure (if f<32 then zd1 (s.fs f) (z56 zs f) torn else s.fs f).loose;rw[if_pos hf];exact trivial
structure Two (N:Nat) (lo:Nat→Prop) (h:AHeap) (db rb:Nat) (s:DS) (B:Nat):Prop where
 K:At lo h db s B
 V:RefAt lo h rb s
 L:LTS s
 hl:∀b,lo b→N≤b
 hr:N≤rb
 hN:N≤h.next
section
variable {N n d db rb B:Nat}{lo:Nat→Prop}{h h':AHeap}{s:DS}
theorem Two.part(W:Two N lo h db rb s B)(t:Tch [] h h'):Two N (shr lo h.next h'.next) h' db rb s B:=
 ⟨W.K.part t (fun _ h=>nomatch h),W.V.tch t (fun _ h=>nomatch h) (fun _ h _=>h.1),W.L,fun b hb=>W.hl b hb.1,W.hr,Nat.le_trans W.hN t.1⟩
end
open Go.RowKit Abs
abbrev TRBal:Nat:=39
abbrev z194:Nat:=66
section
variable {n d D:Nat}{h H:AHeap}{s:zf}{Q:ARes→AHeap→Prop}{t f:Int}
theorem z271(hs:8≤s.length)(hs2:s.length<1000000000){k6:Int→AHeap→R}(hk:Wp (k6 (z48 (s.take 8):Int) h) Q):
  ∀(r i fu:Nat),r+i=8→r<fu→Wp (zc1 s k6 fu (z48 (s.take i):Int) (i:Int) h) Q
 |_,_,0,_,hf=>by omega
 |0,i,fu+1,hi,hf=>by
  obtain rfl:i=8:=by omega
  rw[z111];unfold za8;exact Wp.lett (y9 rfl hk)
 |r+1,i,fu+1,hi,hf=>by
  have hil:i<s.length:=by omega
  have hb:=s[i].toNat_lt;have h1:z48 (s.take i)<256 ^ 7:=Nat.lt_of_lt_of_le (z334 _) (Nat.pow_le_pow_right (by decide) (by rw[List.length_take];omega));have e:=z2a6 (s:=s) (p:=0) (i:=i) (by omega);simp only[Nat.zero_add,List.drop_zero] at e;rw[z111];unfold za8;refine Wp.lett (yc (by rw[decide_eq_true_eq];omega) (y13 (by omega) (by omega) (Wp.obind (z120 hil) (y13 (by omega) (by omega) (y13 (by omega) (by omega) (yd (by omega) (by omega) ?_))))));rw[show (z48 (s.take i):Int)*256+(s[i].toNat:Int)=(z48 (s.take (i+1)):Int) by omega,show (i:Int)+1=((i+1:Nat):Int) by omega];exact z271 hs hs2 hk r (i+1) fu (by omega) (by omega)
theorem z392(hs:8≤s.length)(hs2:s.length<1000000000)(hn:8<n):world n (d+1) 43 [ze s] h=some (.ret (.int .u64 (z48 (s.take 8):Int)),h):=by
 apply Wp.eq;rw[z2e9];refine y34 ?_;unfold zf0;refine y7 fun k6 e6=>z271 hs hs2 ?_ 8 0 n rfl hn;rw[e6];exact Wp.ret ⟨⟨rfl,rfl⟩,fun _=>⟨rfl,rfl⟩⟩
theorem rmay_w:world n (d+1) 18 [.agg [.int .i64 t,.int .i64 f]] h=some (.ret (.bool (decide (z192 t f))),h):=by
 apply Wp.eq;rw[z3d0];refine y3b ?_;unfold z171;refine y1a (Mem.nil [] h) rfl fun h2 M2=>?_;have k2:=M2.at0.1;have A:=M2.tch.above;have g0:[AV.int .i64 t,.int .i64 f][0+0]? =some (.int .i64 t):=rfl;have g1:[AV.int .i64 t,.int .i64 f][0+1]? =some (.int .i64 f):=rfl
 have fin:∀c:Bool,(c=true↔z192 t f)→Wp (some (ARes.ret (.bool c),h2)) fun r h'=>Above h h'∧r.val.scal=true∧r=ARes.ret (.bool (decide (z192 t f)))∧h=h:=fun c hc=>by
  have:c=decide (z192 t f):=by
   cases c with
   |true=>exact(decide_eq_true (hc.1 rfl)).symm
   |false=>exact(decide_eq_false fun hh=>nomatch (hc.2 hh)).symm
  rw[←this];exact Wp.ret ⟨A,rfl,rfl,rfl⟩
 unfold z192 at fin;refine Wp.obind (z6 _ _ _) (Wp.obind (y3 k2 g0) (Wp.obind (z5 _ _) (Wp.lett (y7 fun j10 e10=>?_))))
 by_cases c1:t≥0
 case neg=>
  refine y9 (decide_eq_false c1) ?_;rw[e10];refine y7 fun j15 e15=>y9 rfl ?_;rw[e15];refine y7 fun j20 e20=>y9 rfl ?_;rw[e20];exact fin false ⟨(fun h=>nomatch h),fun h=>absurd h.1 c1⟩
 refine yc (decide_eq_true c1) (Wp.obind (z6 _ _ _) (Wp.obind (y3 k2 g0) (Wp.obind (z5 _ _) (Wp.lett ?_))));rw[e10];refine y7 fun j15 e15=>?_
 by_cases c2:t≤1099511627776
 case neg=>
  refine y9 (decide_eq_false c2) ?_;rw[e15];refine y7 fun j20 e20=>y9 rfl ?_;rw[e20];exact fin false ⟨(fun h=>nomatch h),fun h=>absurd h.2.1 c2⟩
 refine yc (decide_eq_true c2) (Wp.obind (z6 _ _ _) (Wp.obind (y3 k2 g1) (Wp.obind (z5 _ _) (Wp.lett ?_))));rw[e15];refine y7 fun j20 e20=>?_
 by_cases c3:f≥ -1
 case neg=>
  refine y9 (decide_eq_false c3) ?_;rw[e20];exact fin false ⟨(fun h=>nomatch h),fun h=>absurd h.2.2.1 c3⟩
 refine yc (decide_eq_true c3) (Wp.obind (z6 _ _ _) (Wp.obind (y3 k2 g1) (Wp.obind (z5 _ _) (Wp.lett ?_))));rw[e20];refine fin _ ?_;rw[decide_eq_true_eq];exact⟨fun h=>⟨by omega,by omega,by omega,by omega⟩,fun h=>h.2.2.2⟩
theorem rframe_w{e:Ent}(he:z17a e)(hn:4096<n)(hx:z10a 5 h.ex=false):world n (d+5) 49 [.int .u64 e.c,.agg [.int .i64 e.t,.int .i64 e.f]] h=some (.ret (ze (z2e (z10b e))),h):=by
 obtain⟨h1,h2,h3,h4,h5,h6⟩:=he;have hl:=z13d e;apply Wp.eq;rw[z32f];refine y3b ?_;unfold z112;refine y1a (Mem.nil [] h) rfl fun h2 M2=>?_;have k2:=M2.at0.1;have A:=M2.tch.above;have hx2:z10a 5 h2.ex=false:=by rw[M2.tch.2.1];exact hx
 have g0:[AV.int .i64 e.t,.int .i64 e.f][0+0]? =some (.int .i64 e.t):=rfl;have g1:[AV.int .i64 e.t,.int .i64 e.f][0+1]? =some (.int .i64 e.f):=rfl;have n1:=ze9 (n:=n) (d:=d+3) (h:=h2) (v:=e.c.toNat) (w:=8) (by omega) (by omega) (by omega) hx2;have n2:=ze9 (n:=n) (d:=d+3) (h:=h2) (v:=e.t.toNat) (w:=8) (by omega) (by omega) (by omega) hx2;have n3:=ze9 (n:=n) (d:=d+3) (h:=h2) (v:=(e.f+1).toNat) (w:=1) (by omega) (by omega) (by omega) hx2;rw[Int.toNat_of_nonneg (by omega)] at n1 n2 n3;refine Wp.obind (z6 _ _ _) (Wp.obind (y3 k2 g0) (Wp.obind (z5 _ _) (y13 (by omega) (by omega) (Wp.obind (z6 _ _ _) (Wp.obind (y3 k2 g1) (Wp.obind (z5 _ _) (yd (by omega) (by omega) (y13 (by omega) (by omega) ?_))))))));refine Wp.callN n1 (Wp.obind (z16 _) (Wp.chk (z1ad (z83 (by kernel_rfl) (y3 k2 g1)) (z1ad (z83 (by kernel_rfl) (y3 k2 g0)) rfl)) ?_));refine Wp.callN n2 (Wp.obind (z16 _) (Wp.chk (z1ad (z83 (by kernel_rfl) (y3 k2 g1)) rfl) ?_));refine Wp.obind (z122 (by rw[z1b,z1b];omega)) (Wp.callN n3 (Wp.obind (z16 _) (Wp.obind (z122 (by rw[List.length_append,z1b,z1b,z1b];omega)) ?_)));refine Wp.callN (rput_w (n:=n) (d:=d) (h:=h2) (p:=z10b e) (by omega) (by omega) (by omega) hx2) (Wp.obind (z16 _) (Wp.ret ⟨A,rfl,rfl,rfl⟩))
end
theorem FileOk.mono{x:FileS}{B B':Nat}(k:FileOk x B)(h:B≤B'):FileOk x B':=⟨k.1,k.2.1,Nat.le_trans k.2.2.1 h,Nat.le_trans k.2.2.2 h⟩
theorem z4a4{x:FileS}{c:Chg}(h:z2e6 x c=0)(hk:c.k=0∨c.k=1∨c.k=2):z3a7 x.seen c:=by
 unfold z2e6 at h
 rcases hk with hk|hk|hk
 ·exact .inl hk
 ·rw [if_neg (by omega)] at h
  split at h
  ·omega
  ·split at h
   ·omega
   ·rename_i h2
    refine .inr (.inl ⟨hk,?_⟩);have:¬(c.n<0∨(x.seen.u.length:Int)<c.n):=fun hh=>h2 ⟨hk,hh⟩;omega
 ·exact .inr (.inr hk)
theorem z417{p:Int}(h: -1≤p∧p<9223372036854775808): -1≤z60 p∧z60 p<9223372036854775808:=by
 unfold z60
 split<;>omega
theorem SOk.mono{s:DS}{B B':Nat}(k:SOk s B)(h:B≤B'):SOk s B':=⟨fun f hf=>(k.ok f hf).mono h,k.lt,k.hp,Nat.le_trans k.ho h⟩
theorem SOk.act{s:DS}{B:Nat}{z:Int}{c:Chg}(k:SOk s B)(hk:c.k=0∨c.k=1∨c.k=2):SOk (z15d s z c) (B+c.s.length+1):=by
 by_cases h0:z121 s z c=0
 ·have hl := LTS.act (z := z) (c := c) k
  have h1:=h0;rw[z1aa] at h1;obtain⟨hp,f,rfl,hf⟩:=z3d8 h1
  have r0:zd7 s.p (f:Int)=0:=by
   unfold zd7;rw[if_neg hp,if_pos (by omega)]
  rw[z15a r0] at h0;rw[z23b r0 h0] at hl ⊢;refine⟨fun g hg=>?_,hl,z417 k.hp,by have:=k.ho;show s.ops+1≤_;omega⟩;show FileOk (upd s.fs f (zf9 (s.fs f) c) g) _
  by_cases e:g=f
  ·rw [e, zc8]
   exact z423 (k.ok f hf) (z4a4 h0 hk)
  ·rw [z92 _ _ e]
   exact(k.ok g hg).mono (by omega)
 ·rw [z162 h0]
  exact k.mono (by omega)
theorem SOk.syn{s:DS}{B:Nat}(k:SOk s B)(z:Int):SOk (z1fb s z) (B+1):=by
 have hl:=LTS.syn k.lt z;unfold z1fb at hl ⊢
 split
 ·rename_i hz
  rw[if_pos hz] at hl;refine⟨fun g hg=>?_,hl,z417 k.hp,by have:=k.ho;show s.ops+1≤_;omega⟩;show FileOk (upd s.fs z.toNat (z44b (s.fs z.toNat)) g) _
  by_cases e:g=z.toNat
  ·rw [e, zc8]
   exact(z485 (k.ok _ (e▸hg))).mono (by omega)
  ·rw [z92 _ _ e]
   exact(k.ok g hg).mono (by omega)
 ·exact k.mono (by omega)
theorem SOk.crash{s:DS}{B:Nat}(k:SOk s B)(zs:List Int)(torn:Int):SOk (z27e s zs torn) B:=
 ⟨fun f hf => by
  show FileOk (if f<32 then zd1 (s.fs f) (z56 zs f) torn else s.fs f) B;rw[if_pos hf];exact z3be _ _ (k.ok f hf),LTS.crash _ _ _,⟨Int.le_refl _,(show (-1:Int)<9223372036854775808 by decide)⟩,k.ho⟩
theorem z424{s:DS}{z:Nat}(hz:z<2)(hp:s.p= -1):z1ef s (z:Int) (g0 s z) (z0 s z)=0∧(∀f,f≠z→(z8c s (z:Int) (g0 s z) (z0 s z)).fs f=s.fs f)∧(z8c s (z:Int) (g0 s z) (z0 s z)).p= -1:=by
 have r0:∀p:Int,p= -1→zd7 p (z:Int)=0:=fun p h=>by
  unfold zd7;rw[if_neg (by omega),if_pos (by omega)]
 have hle:=z104 (z21 s z)
 by_cases hgz:g0 s z=z0 s z
 ·unfold z1ef z8c
  rw[if_pos hgz,if_pos hgz];exact⟨rfl,fun _ _=>rfl,hp⟩
 have hgz':((29*(z44 (z21 s z)).length:Nat):Int)≠((z21 s z).length:Int):=hgz
 have hrs:z21 s z=if (s.fs z).seen.th=true then (s.fs z).seen.u else []:=by
  unfold z21;rw[if_pos (r0 _ hp),Int.toNat_natCast]
 have hth:(s.fs z).seen.th=true:=by
  cases h:(s.fs z).seen.th with
  |true=>rfl
  |false=>
   rw[h] at hrs;have hrs:z21 s z=[]:=hrs;rw[hrs] at hgz' hle;have h0:([]:zf).length=0:=rfl;omega
 rw[if_pos hth] at hrs
 have hown:z2e6 (s.fs z) ⟨1,[],g0 s z⟩=0:=by
  unfold z2e6;rw[if_neg (by show ¬(1:Nat)=0;decide),if_neg (by rw[hth];decide),if_neg]
  rintro ⟨_,h⟩
  have h:((29*(z44 (z21 s z)).length:Nat):Int)<0∨((s.fs z).seen.u.length:Int)<((29*(z44 (z21 s z)).length:Nat):Int):=h;rw[←hrs] at h;omega
 have hE0:z121 s (z:Int) ⟨1,[],g0 s z⟩=0:=(z15a (r0 _ hp)).trans hown;have ha:=z23b (c:=⟨1,[],g0 s z⟩) (r0 _ hp) hown;have hsp:z60 s.p= -1:=by rw[hp];rfl
 unfold z1ef z8c;rw[if_neg hgz,if_neg hgz,if_neg (by rw[hE0];simp),if_neg (by rw[hE0];simp),ha];refine⟨r0 _ hsp,fun f hf=>?_,?_⟩
 ·unfold z1fb
  rw[if_pos (show zd7 (z60 s.p) (z:Int)=0 from r0 _ hsp),Int.toNat_natCast];show upd (upd s.fs z (zf9 (s.fs z) ⟨1,[],g0 s z⟩)) z _ f=s.fs f;rw[z92 _ _ hf,z92 _ _ hf]
 ·unfold z1fb
  rw[if_pos (show zd7 (z60 s.p) (z:Int)=0 from r0 _ hsp)];show z60 (z60 s.p)= -1;rw[hsp];rfl
theorem z397{s s':DS}{z:Nat}(hp:s.p=s'.p)(hf:s.fs z=s'.fs z):z21 s z=z21 s' z∧z215 s z=z215 s' z:=by
 unfold z21 z215;rw[hp,Int.toNat_natCast,hf];exact⟨rfl,rfl⟩
structure RB where
 a:Ent×Int
 inn:Int
 er:Int
def rbC(rb:Nat)(y:RB):List AV:=[.ptr rb 0,.int .i64 y.a.1.t,.int .i64 y.a.1.f,.int .u64 y.a.1.c,.int .i64 y.a.2,.int .i64 y.inn,.int .i64 y.er]
def StrAt(H:AHeap)(v:AV)(l:List zf):Prop:=(v=.nsl∧l=[])∨∃c,v=.sl c 0 l.length 1∧RowH H c z3c8 (l.map ze)∧c<H.next
def z29c(c:Int)(l:List Ent):Bool:=l.any fun e=>decide (e.c>c)
section
variable {n d D db rb yb B:Nat}{lo lo':Nat→Prop}{h H H':AHeap}{s:DS}{v pv:AV}{l:List zf}{Q:ARes→AHeap→Prop}
theorem Sli.strAt{e:Nat}(k:Sli z3c8 1 e H v (z474 l)):StrAt H v l∧∀b∈z5d v,e≤b∧b<H.next:=by
 have hf:(z474 l).flatten=l.map ze:=z35a ze l
 rcases k.2 with⟨h1,rfl⟩|⟨c,_,rfl,h3,h4,h5⟩
 ·cases l with
  |nil=>exact⟨.inl ⟨rfl,rfl⟩,fun _ h=>nomatch h⟩
  |cons a l=>cases h1
 ·rw [hf] at h5
  exact⟨.inr ⟨c,by rw[show (z474 l).length=l.length from List.length_map ..],h5,h4⟩,fun b hb=>by rw[List.mem_singleton.1 hb];exact⟨h3,h4⟩⟩
theorem StrAt.tch{S:List Nat}(k:StrAt H v l)(t:Tch S H H')(hS:∀b∈z5d v,b ∉ S):StrAt H' v l:=by
 rcases k with k|⟨c,rfl,h2,h3⟩
 ·exact .inl k
 ·exact .inr ⟨c,rfl,h2.tch t h3 (hS c (List.mem_singleton.2 rfl)),Nat.lt_of_lt_of_le h3 t.1⟩
theorem StrAt.len(k:StrAt H v l):z197 v=some (l.length:Int):=by
 rcases k with⟨rfl,rfl⟩|⟨c,rfl,_⟩<;>rfl
theorem StrAt.at(k:StrAt H v l){i:Nat}(hi:i<l.length):∃p,z18d 1 v (i:Int)=some p∧z9 H p=some (ze l[i]):=by
 rcases k with⟨_,rfl⟩|⟨c,rfl,h5,_⟩
 ·cases hi
 ·refine ⟨.ptr c (0 + i * 1), z25f hi, ?_⟩
  refine y3 h5 ?_;rw[show 0+i*1=i by omega,List.getElem?_map,List.getElem?_eq_getElem hi];rfl
theorem z465{p:zf}{e:Ent}(h:rdE p=some e)(r:List zf):z47 (p::r)=e::z47 r:=by
 show (match rdE p with|some e=>e::z47 r|none=>[])=_;rw[h]
theorem z466{p:zf}(h:rdE p=none)(r:List zf):z47 (p::r)=[]:=by
 show (match rdE p with|some e=>e::z47 r|none=>[])=_;rw[h]
set_option maxHeartbeats 2000000 in
theorem z2ce{F inn:Int}{A:Ent×Int}(hn:8<n)(hl:l.length<1000000){k55:Int→Int→Bool→AHeap→R}(hk:∀H',RowH H' yb z194 (rbC rb ⟨z3b F (z47 l) A,inn,0⟩)→Tch [yb] h H'→Wp (k55 ((29*(z47 l).length:Nat):Int) ((z47 l).length:Int) (z29c A.1.c (z47 l)) H') Q):
  ∀(rest:List zf) (i fu:Nat) (H:AHeap) (a:Ent×Int) (b:Bool),l.drop i=rest→rest.length<fu→z3b F (z47 rest) a=z3b F (z47 l) A→i+(z47 rest).length=(z47 l).length→(b||z29c a.1.c (z47 rest))=z29c A.1.c (z47 l)→StrAt H pv l→RowH H yb z194 (rbC rb ⟨a,inn,0⟩)→yb<H.next→yb ∉ z5d pv→Tch [yb] h H→
   Wp (zfe (world n (d+1)) (.ptr yb 0) F pv k55 fu ((29*i:Nat):Int) (i:Int) b (i:Int) H) Q
 |_,_,0,_,_,_,_,hf,_,_,_,_,_,_,_,_=>by omega
 |[],i,fu+1,H,a,b,hd,hf,c1,c2,c3,ks,ky,hy,hnp,T=>by
  have:=dropN hd;have e0:(z47 ([]:List zf)).length=0:=rfl;rw[z14f];unfold zdb;refine Wp.obind ks.len (Wp.lett (y9 (by rw[decide_eq_false_iff_not];omega) ?_));have c1:a=z3b F (z47 l) A:=c1;have c3:b=z29c A.1.c (z47 l):=by rw[←c3];exact(Bool.or_false b).symm
  rw[show i=(z47 l).length by omega,c3];exact hk H (c1▸ky) T
 |p::rest,i,fu+1,H,a,b,hd,hf,c1,c2,c3,ks,ky,hy,hnp,T=>by
  obtain⟨hi,hci,hd2⟩:=dropC hd;rw[List.length_cons] at hf;obtain⟨q,q1,q2⟩:=ks.at hi;rw[hci] at q2;have ll:=z4e p;rw[z14f];unfold zdb;refine Wp.obind ks.len (Wp.lett (yc (by rw[decide_eq_true_eq];omega) (Wp.obind q1 (Wp.obind q2 (Wp.obind (z16 _) (Wp.lett (y7 fun j61 e61=>?_)))))))
  -- it is no entry
  have bad:rdE p=none→Wp (k55 ((29*i:Nat):Int) (i:Int) b H) Q:=fun hr=>by
   rw[z466 hr] at c1 c2 c3;have e0:([]:List Ent).length=0:=rfl;have c1:a=z3b F (z47 l) A:=c1;have c3:b=z29c A.1.c (z47 l):=by rw[←c3];exact(Bool.or_false b).symm
   rw[show i=(z47 l).length by omega,c3];exact hk H (c1▸ky) T
  have none_of:¬(p.length=17∧1≤z48 (p.take 8)∧z48 (p.take 8)≤4611686018427387904∧z48 ((p.drop 8).take 8)≤1099511627776∧z48 ((p.drop 16).take 1)≤3)→rdE p=none:=fun hh=>by
   unfold rdE;exact if_neg hh
  by_cases h17:p.length=17
  case neg=>
   refine yc (z11b (by omega)) ?_;rw[e61];refine y7 fun j66 e66=>yc rfl ?_;rw[e66];refine y7 fun j72 e72=>yc rfl ?_;rw[e72];refine y7 fun j77 e77=>yc rfl ?_;rw[e77];exact yc rfl (bad (none_of fun hh=>h17 hh.1))
  have num0:∀H,world n (d+1) 43 [ze p] H=some (.ret (.int .u64 (z48 (p.take 8):Int)),H):=fun H=>z392 (by omega) (by omega) hn;have num8:∀H,world n (d+1) 43 [ze (p.drop 8)] H=some (.ret (.int .u64 (z48 ((p.drop 8).take 8):Int)),H):=fun H=>z392 (by rw[List.length_drop];omega) (by rw[List.length_drop];omega) hn
  have sl8:z5f p 8 (z7e p)=some (p.drop 8):=by
   rw[z58 (by omega) (by omega) (by omega),List.take_of_length_le (by rw[List.length_drop];omega)];rfl
  have h16:16<p.length:=by omega
  have e16:z48 ((p.drop 16).take 1)=p[16].toNat:=by
   have:=z2a6 (s:=p) (p:=16) (i:=0) h16;have hz:z48 ((p.drop 16).take 0)=0:=rfl;rw[hz] at this;rw[show (1:Nat)=0+1 from rfl,this];rw[Nat.zero_mul,Nat.zero_add]
  have hb16:=p[16].toNat_lt;refine y9 (ze6 (by omega)) (Wp.callN (num0 H) (Wp.obind (z5 _ _) (Wp.lett ?_)));rw[e61];refine y7 fun j66 e66=>?_
  by_cases hz:z48 (p.take 8)=0
  ·refine yc (zbb (by omega)) ?_
   rw[e66];refine y7 fun j72 e72=>yc rfl ?_;rw[e72];refine y7 fun j77 e77=>yc rfl ?_;rw[e77];exact yc rfl (bad (none_of fun hh=>by omega))
  refine y9 (z8d (by omega)) (Wp.callN (num0 H) (Wp.obind (z5 _ _) (Wp.lett ?_)));rw[e66];refine y7 fun j72 e72=>?_
  by_cases hbig:z48 (p.take 8)≤4611686018427387904
  case neg=>
   refine yc (by rw[decide_eq_true_eq];omega) ?_;rw[e72];refine y7 fun j77 e77=>yc rfl ?_;rw[e77];exact yc rfl (bad (none_of fun hh=>hbig hh.2.2.1))
  refine y9 (by rw[decide_eq_false_iff_not];omega) (Wp.obind sl8 (Wp.callN (num8 H) (Wp.obind (z5 _ _) (Wp.lett ?_))));rw[e72];refine y7 fun j77 e77=>?_
  by_cases hterm:z48 ((p.drop 8).take 8)≤1099511627776
  case neg=>
   refine yc (by rw[decide_eq_true_eq];omega) ?_;rw[e77];exact yc rfl (bad (none_of fun hh=>hterm hh.2.2.2.1))
  refine y9 (by rw[decide_eq_false_iff_not];omega) (Wp.obind (z120 h16) (Wp.lett ?_));rw[e77]
  by_cases hnode:p[16].toNat≤3
  case neg=>
   refine yc (by rw[decide_eq_true_eq];omega) ?_;exact bad (none_of fun hh=>hnode (e16▸hh.2.2.2.2))
  have hr:rdE p=some ⟨(z48 (p.take 8):Int),(z48 ((p.drop 8).take 8):Int),(p[16].toNat:Int) - 1⟩:=by
   unfold rdE;rw[if_pos ⟨h17,by omega,hbig,hterm,by omega⟩,e16]
  rw[z465 hr] at c1 c2 c3;rw[List.length_cons] at c2;have g3:(rbC rb ⟨a,inn,0⟩)[0+3]? =some (.int .u64 a.1.c):=rfl;refine y9 (by rw[decide_eq_false_iff_not];omega) (yd (by omega) (by omega) (yd (by omega) (by omega) (Wp.obind (z8 _ _) (Wp.obind (z6 _ _ _) (Wp.obind (y3 ky g3) (Wp.obind (z5 _ _) (Wp.callN (num0 H) (Wp.obind (z5 _ _) (Wp.chk (z1ad (z83 (by kernel_rfl) (y3 ky g3)) rfl) (Wp.lett (y7 fun k128 e128=>?_)))))))))));have hlt:(z47 l).length≤l.length:=z361 l;rw[show ((29*i:Nat):Int)+29=((29*(i+1):Nat):Int) by omega,show (i:Int)+1=((i+1:Nat):Int) by omega] at e128
  by_cases hnew:(z48 (p.take 8):Int)>a.1.c
  ·have hc1 : z3b F (z47 rest) (⟨(z48 (p.take 8) : Int), (z48 ((p.drop 8).take 8) : Int), (p[16].toNat : Int) - 1⟩, F) = z3b F (z47 l) A := by
    rw[←c1];show _=z3b F (z47 rest) (if (z48 (p.take 8):Int)>a.1.c then _ else a);rw[if_pos hnew]
   have hc3:(true||z29c (z48 (p.take 8):Int) (z47 rest))=z29c A.1.c (z47 l):=by
    rw[←c3];show true=(b||(decide ((z48 (p.take 8):Int)>a.1.c)||z29c a.1.c (z47 rest)));rw[decide_eq_true hnew,Bool.true_or,Bool.or_true]
   refine yc (by rw[decide_eq_true_eq];exact hnew) (Wp.callN (num0 H) (Wp.obind (z5 _ _) (Wp.obind (z8 _ _) (Wp.obind (z6 _ _ _) ?_))));refine Wp.st1 ky (show 0+3<7 by decide) rfl fun H2 k2 t2 n2=>?_;refine Wp.obind sl8 (Wp.obind (z120 h16) (yd (by omega) (by omega) (yd (by omega) (by omega) (Wp.callN (num8 H2) (Wp.obind (z5 _ _) (yd (by omega) (by omega) (Wp.obind (z8 _ _) (Wp.obind (z6 _ _ _) ?_))))))));refine y32 k2 rfl (show 0+1+2≤7 by decide) rfl fun H3 k3 t3 n3=>Wp.obind (z8 _ _) (Wp.obind (z6 _ _ _) ?_);refine Wp.st1 k3 (show 0+4<7 by decide) rfl fun H4 k4 t4 n4=>?_;rw[e128];refine yd (by omega) (by omega) ?_;have t24:=(t2.trans t3).trans t4;exact z2ce hn hl hk rest (i+1) fu H4 (⟨(z48 (p.take 8):Int),(z48 ((p.drop 8).take 8):Int),(p[16].toNat:Int) - 1⟩,F) true hd2 (by omega) hc1 (by omega) hc3 (ks.tch t24 fun c hc hm=>hnp (List.mem_singleton.1 hm▸hc)) k4 (Nat.lt_of_lt_of_le hy t24.1) hnp (T.trans t24)
  ·have hc1 : z3b F (z47 rest) a = z3b F (z47 l) A := by
    rw[←c1];show _=z3b F (z47 rest) (if (z48 (p.take 8):Int)>a.1.c then _ else a);rw[if_neg hnew]
   have hc3:(b||z29c a.1.c (z47 rest))=z29c A.1.c (z47 l):=by
    rw[←c3];show _=(b||(decide ((z48 (p.take 8):Int)>a.1.c)||z29c a.1.c (z47 rest)));rw[decide_eq_false hnew,Bool.false_or]
   refine y9 (by rw[decide_eq_false_iff_not];exact hnew) ?_;rw[e128];refine yd (by omega) (by omega) ?_;exact z2ce hn hl hk rest (i+1) fu H a b hd2 (by omega) hc1 (by omega) hc3 ks ky hy hnp T
end
theorem SOk.mend{s:DS}{B:Nat}(k:SOk s B)(z g sz:Int):SOk (z8c s z g sz) (B+2):=by
 unfold z8c
 split
 ·exact k.mono (by omega)
 ·split
  ·exact(k.act (.inr (.inl rfl))).mono (by show B+0+1≤B+2;omega)
  ·exact((k.act (.inr (.inl rfl))).syn z).mono (by show B+0+1+1≤B+2;omega)
def rbF(f:Int)(es:List Ent)(y:RB):RB:=⟨z3b f es y.a,if z29c y.a.1.c es=true then (es.length:Int) else y.inn,0⟩
def opY(s:DS):RB:=rbF 1 (z44 (z21 s 1)) (rbF 0 (z44 (z21 s 0)) ⟨(ne0,1),8,0⟩)
section
variable {n d D db rb yb B:Nat}{lo lo':Nat→Prop}{h H H':AHeap}{s:DS}{y:RB}{Q:ARes→AHeap→Prop}
theorem RefAt.less{lo lo':Nat→Prop}(k:RefAt lo h rb s)(hl:∀b,lo' b→b<h.next→lo b):RefAt lo' h rb s:=k.tch (Tch.refl [] h) (fun _ h=>nomatch h) hl
set_option maxHeartbeats 2000000 in
theorem z309{f fu:Nat}(hf:f<2)(hn:1000000000<n)(V:RefAt lo h rb s)(ho:SOk s B)(hB:B<500000)(hx:h.ex=[])(hp:s.p= -1)(hy0:y.er=0)(ky:RowH h yb z194 (rbC rb y))(hyb:yb<h.next)(hyl:lo yb)(hyr:yb≠rb){k17:AHeap→R}(hk : ∀ H', RowH H' yb z194 (rbC rb (rbF (f : Int) (z44 (z21 s (f : Int))) y)) → RefAt (shr lo h.next H'.next) H' rb (z8c s (f : Int) (g0 s f) (z0 s f)) → Tch [rb, yb] h H' →
   Wp (z5b (world n (d+6)) n (.ptr rb 0) (.ptr yb 0) k17 fu ((f+1:Nat):Int) H') Q):
  Wp (z5b (world n (d+6)) n (.ptr rb 0) (.ptr yb 0) k17 (fu+1) (f:Int) h) Q:=by
 obtain⟨a,inn,er⟩:=y;have hy0:er=0:=hy0;subst hy0;obtain⟨mk1,_,_⟩:=z424 (s:=s) (z:=f) hf hp
 have hrl:(z21 s (f:Int)).length≤B:=by
  unfold z21
  split
  ·split
   ·rw [Int.toNat_natCast]
    obtain⟨o1,_,o3,_⟩:=ho.ok f (by omega);have:=z131 (s.fs f).loose (s.fs f).sure;rw[←o1] at this;omega
   ·exact Nat.zero_le _
  ·exact Nat.zero_le _
 have ll:=z4e (z21 s (f:Int));have hle:=z104 (z21 s (f:Int));obtain⟨DD,vs,VD⟩:=id V;obtain⟨h2,e2,t2⟩:=read_r (n:=n) (d:=d+2) (by omega) VD ho (by omega) (f:Int);have n2:=t2.1;have V2:RefAt lo h2 rb s:=V.tch t2 (fun _ h=>nomatch h) (fun _ h _=>h);have ky2:=ky.tch t2 hyb (fun h=>nomatch h);rw[z150];unfold zdc;refine Wp.lett (yc (by rw[decide_eq_true_eq];omega) (y7 fun k27 e27=>Wp.callN e2 (Wp.obind (zd0 _ _) (Wp.obind (z16 _) (Wp.obind (zcf _ _ _) (Wp.obind (z5 _ _) (Wp.lett ?_)))))))
 have go:∀H',RowH H' yb z194 (rbC rb (rbF (f:Int) (z44 (z21 s (f:Int))) ⟨a,inn,0⟩))→RefAt (shr lo h.next H'.next) H' rb (z8c s (f:Int) (g0 s f) (z0 s f))→Tch [rb,yb] h H'→Wp (k27 H') Q:=fun H' h1 h2 h3=>by
  rw[e27];refine yd (by omega) (by omega) ?_;rw[show (f:Int)+1=((f+1:Nat):Int) by omega];exact hk H' h1 h2 h3
 have r0:zd7 s.p (f:Int)=0:=by
  unfold zd7;rw[if_neg (by omega),if_pos (by omega)]
 by_cases h4:z215 s (f:Int)=4
 ·have hnil : z21 s (f : Int) = [] := by
   unfold z215 at h4;rw[if_pos r0] at h4;unfold z21;rw[if_pos r0]
   split
   ·rename_i hth
    rw[if_pos hth] at h4;cases h4
   ·rfl
  have hg:z44 (z21 s (f:Int))=[]:=by
   rw[hnil] at hle ⊢;exact List.length_eq_zero_iff.1 (by have h0:([]:zf).length=0:=rfl;omega)
  have hm:z8c s (f:Int) (g0 s f) (z0 s f)=s:=by
   unfold z8c;refine if_pos ?_;show ((29*(z44 (z21 s (f:Int))).length:Nat):Int)=((z21 s (f:Int)).length:Int);rw[hg,hnil];rfl
  refine yc (zbb h4) (go h2 ?_ ?_ (t2.mono fun _ h=>nomatch h))
  ·rw [hg]
   exact ky2
  ·rw [hm]
   exact V2.less fun _ h _=>h.1
 have h0:z215 s (f:Int)=0:=by
  unfold z215 at h4 ⊢;rw[if_pos r0] at h4 ⊢
  split
  ·rfl
  ·rename_i hth
   rw[if_neg hth] at h4;exact absurd rfl h4
 have hx2:h2.ex=[]:=by rw[t2.2.1,hx]
 obtain⟨h3,v3,e3,k3,t3⟩:=rscan_w (n:=n) (d:=d) (s:=z21 s (f:Int)) (h:=h2) (by omega) (by omega) hx2;have n3:=t3.1;obtain⟨ks,bs⟩:=Sli.strAt k3;have hsl:(z4f (z21 s (f:Int))).1.length*12≤(z21 s (f:Int)).length:=(z294 _ (z21 s (f:Int)) (Nat.le_refl _)).2;have ky3:=ky2.tch t3 (by omega) (fun h=>nomatch h);have V3:RefAt lo h3 rb s:=V2.tch t3 (fun _ h=>nomatch h) (fun _ h _=>h);have hx3:h3.ex=[]:=by rw[t3.2.1,hx2]
 refine y9 (z8d h4) (Wp.lett (y9 (ze6 h0) (Wp.callN e3 (Wp.obind (zd0 _ _) (Wp.obind (zcf _ _ _) (Wp.obind (z5 _ _) (y7 fun k55 e55=>?_)))))))
 have key:=z2ce (n:=n) (d:=d+5) (h:=h3) (Q:=Q) (rb:=rb) (yb:=yb) (pv:=v3) (l:=(z4f (z21 s (f:Int))).1) (F:=(f:Int)) (inn:=inn) (A:=a) (k55:=k55) (by omega) (by omega) ?_ (z4f (z21 s (f:Int))).1 0 n h3 a false rfl (by omega) rfl (Nat.zero_add _) (Bool.false_or _) ks ky3 (by omega) (fun hb=>by
  have:=(bs yb hb).1;omega) (Tch.refl _ _)
 ·exact key
 intro h4' ky4 t4;have n4:=t4.1;have T4:Tch [rb,yb] h h4':=((t2.trans t3).mono fun _ h=>nomatch h).trans (t4.mono fun b hb=>.inl (List.mem_cons_of_mem _ hb));have V4:RefAt lo h4' rb s:=V3.tch t4 (fun b hb=>.inl (by rw[List.mem_singleton.1 hb];exact hyl)) (fun _ h _=>h)
 have K59:∀(k59:AHeap→R),(∀H5,RowH H5 yb z194 (rbC rb (rbF (f:Int) (z44 (z21 s (f:Int))) ⟨a,inn,0⟩))→RefAt lo H5 rb s→Tch [rb,yb] h H5→h3.next≤H5.next→Wp (k59 H5) Q)→
   Wp (ifB (z29c a.1.c (z47 (z4f (z21 s (f:Int))).1)) (obind (z34 (.ptr yb 0)) fun t113=>obind (z20 5 t113) fun t114=>obind (z27 h4' 1 [.int .i64 ((z47 (z4f (z21 s (f:Int))).1).length:Int)] t114) fun h_82=>k59 h_82) (k59 h4')) Q:=fun k59 hk59=>by
  cases hc:z29c a.1.c (z47 (z4f (z21 s (f:Int))).1) with
  |true=>
   refine yc rfl (Wp.obind (z8 _ _) (Wp.obind (z6 _ _ _) (Wp.st1 ky4 (show 0+5<7 by decide) rfl fun H5 ky5 t5 n5=>hk59 H5 ?_ ?_ ?_ (by omega))))
   ·have : rbF (f : Int) (z44 (z21 s (f : Int))) ⟨a, inn, 0⟩ = ⟨z3b (f : Int) (z47 (z4f (z21 s (f : Int))).1) a, ((z47 (z4f (z21 s (f : Int))).1).length : Int), 0⟩ := by
     unfold rbF;rw[if_pos (show z29c a.1.c (z44 (z21 s (f:Int)))=true from hc)];rfl
    rw[this];exact ky5
   ·exact V4.tch t5 (fun b hb=>.inl (by rw[List.mem_singleton.1 hb];exact hyl)) (fun _ h _=>h)
   ·exact T4.trans (t5.mono fun b hb=>.inl (List.mem_cons_of_mem _ hb))
  |false=>
   refine y9 rfl (hk59 h4' ?_ V4 T4 (by omega))
   have:rbF (f:Int) (z44 (z21 s (f:Int))) ⟨a,inn,0⟩=⟨z3b (f:Int) (z47 (z4f (z21 s (f:Int))).1) a,inn,0⟩:=by
    unfold rbF;rw[if_neg (show ¬z29c a.1.c (z44 (z21 s (f:Int)))=true by rw[show z29c a.1.c (z44 (z21 s (f:Int)))=false from hc];decide)];rfl
   rw[this];exact ky4
 rw[e55];refine y7 fun k59 e59=>K59 k59 fun H5 ky5 V5 T5 n5=>?_;have l5:=Nat.lt_of_lt_of_le hyb T5.1;have hx5:H5.ex=[]:=by rw[T5.2.1,hx]
 rw[e59];refine Wp.lett (y7 fun k63 e63=>?_)
 by_cases hgz:g0 s f=z0 s f
 ·have hm : z8c s (f : Int) (g0 s f) (z0 s f) = s := if_pos hgz
  have hgz:((29*(z47 (z4f (z21 s (f:Int))).1).length:Nat):Int)=((z21 s (f:Int)).length:Int):=hgz;refine y9 (by rw[decide_eq_false_iff_not];omega) ?_;rw[e63];exact go H5 ky5 (by rw[hm];exact V5.less fun _ h _=>h.1) T5
 have hgz':((29*(z47 (z4f (z21 s (f:Int))).1).length:Nat):Int)≠((z21 s (f:Int)).length:Int):=hgz;have hle':29*(z47 (z4f (z21 s (f:Int))).1).length≤(z21 s (f:Int)).length:=hle
 have hE0:z121 s (f:Int) ⟨1,[],g0 s f⟩=0:=by
  unfold z1ef at mk1;rw[if_neg hgz] at mk1
  split at mk1
  ·rename_i hne
   exact absurd mk1 hne
  ·rename_i hne
   simpa using hne
 have hm:z8c s (f:Int) (g0 s f) (z0 s f)=z1fb (z15d s (f:Int) ⟨1,[],g0 s f⟩) (f:Int):=by
  unfold z8c;rw[if_neg hgz,if_neg (by rw[hE0];simp)]
 have hR0:zd7 (z15d s (f:Int) ⟨1,[],g0 s f⟩).p (f:Int)=0:=by
  unfold z1ef at mk1;rw[if_neg hgz,if_neg (by rw[hE0];simp)] at mk1;exact mk1
 obtain⟨D5,vs5,VD5⟩:=id V5;obtain⟨h6,e6,t6,V6⟩:=z29b (n:=n) (d:=d+2) (c:=⟨1,[],g0 s f⟩) (by omega) VD5 ho (by omega) hx5 (f:Int);have n6:=t6.1;have ho6:=ho.act (z:=(f:Int)) (c:=⟨1,[],g0 s f⟩) (.inr (.inl rfl));obtain⟨D6,vs6,VD6⟩:=id V6;obtain⟨h7,e7,t7,V7⟩:=sync_r (n:=n) (d:=d+3) (by omega) VD6 ho6 (by show B+0+1<900000;omega) (f:Int);have n7:=t7.1;have ky6:=ky5.tch t6 l5 (fun h=>hyr (List.mem_singleton.1 h));have ky7:=ky6.tch t7 (by omega) (fun h=>hyr (List.mem_singleton.1 h));rw[hE0] at e6;rw[hR0] at e7;refine yc (by rw[decide_eq_true_eq];omega) (Wp.callN e6 (Wp.obind (z5 _ _) (Wp.lett (y7 fun k72 e72=>yc rfl (Wp.callN e7 (Wp.obind (z5 _ _) ?_))))));rw[e72];refine Wp.lett (y9 rfl ?_);rw[e63];have t67:=t6.trans t7;have n5':=T5.1;refine go h7 ky7 ?_ (T5.trans (t67.mono fun b hb=>.inl (by rw[List.mem_singleton.1 hb];exact List.mem_cons_self ..)));rw[hm];exact V7.less fun b hb hlt=>⟨⟨hb.1,by rcases hb.2 with h|h<;>omega⟩,by rcases hb.2 with h|h<;>omega⟩
set_option maxHeartbeats 1000000 in
theorem ropen_w(hn:1000000000<n)(V:RefAt lo h rb s)(ho:SOk s B)(hB:B<400000)(hx:h.ex=[])(hp:s.p= -1):
  ∃H',world n (d+7) 21 [.ptr rb 0] h=some (.ret (.tup [.ptr h.next 0,.int .i64 0]),H')∧RowH H' h.next z194 (rbC rb (opY s))∧h.next<H'.next∧Tch [rb] h H'∧RefAt (fun b=>shr lo h.next H'.next b∨b=h.next) H' rb (opD s):=by
 suffices hK:Wp (world n (d+7) 21 [.ptr rb 0] h) fun r H'=>r=.ret (.tup [.ptr h.next 0,.int .i64 0])∧RowH H' h.next z194 (rbC rb (opY s))∧h.next<H'.next∧Tch [rb] h H'∧RefAt (fun b=>shr lo h.next H'.next b∨b=h.next) H' rb (opD s) by
  obtain⟨_,H',e,rfl,k⟩:=hK;exact⟨H',e,k⟩
 rw[z378];unfold z141;obtain⟨DD,vs,VD⟩:=id V;have hrb:=VD.hrb;refine Wp.obind (z8 _ _) (Wp.obind (z6 _ _ _) (Wp.obind (y3 VD.row (show DD[0+96]? =some (.int .i64 s.p) from VD.cp)) (Wp.obind (z5 _ _) (Wp.lett (y9 (z8d (by omega)) (Wp.obind (a:=rbC rb ⟨(ne0,1),8,0⟩) (by kernel_rfl) (y1a (Mem.nil [] h) rfl fun h2 M2=>y7 fun k17 e17=>?_)))))));have ky2:=M2.at0.1;have l2:=M2.at0.2.1;have t2:=M2.tch;have n2:=t2.1;have hx2:h2.ex=[]:=by rw[t2.2.1,hx]
 have V2:RefAt (fun b=>lo b∨b=h.next) h2 rb s:=V.tch t2 (fun _ h=>nomatch h) (fun b hb hlt=>hb.resolve_right (by omega));obtain⟨m,hm⟩:∃m,n=m+3:=⟨n - 3,by omega⟩
 have hfu:∀Q,Wp (z5b (world n (d+6)) n (.ptr rb 0) (.ptr h.next 0) k17 (m+1+1+1) ((0:Nat):Int) h2) Q→Wp (z5b (world n (d+6)) n (.ptr rb 0) (.ptr h.next 0) k17 n 0 h2) Q:=fun Q hw=>by
  rw[show z5b (world n (d+6)) n (.ptr rb 0) (.ptr h.next 0) k17 n 0 h2=z5b (world n (d+6)) n (.ptr rb 0) (.ptr h.next 0) k17 (m+1+1+1) ((0:Nat):Int) h2 from by rw[←hm];rfl];exact hw
 refine hfu _ ?_;obtain⟨_,mo,mp⟩:=z424 (s:=s) (z:=0) (by decide) hp;have ho1:=ho.mend 0 (g0 s ((0:Nat):Int)) (z0 s ((0:Nat):Int));obtain⟨r1,_⟩:=z397 (s:=z8c s ((0:Nat):Int) (g0 s ((0:Nat):Int)) (z0 s ((0:Nat):Int))) (s':=s) (z:=1) (by rw[mp,hp]) (mo 1 (by decide));refine z309 (f:=0) (y:=⟨(ne0,1),8,0⟩) (by decide) hn V2 ho (by omega) hx2 hp rfl ky2 l2 (.inr rfl) (by omega) fun h3 ky3 V3 t3=>?_;have n3:=t3.1;have hx3:h3.ex=[]:=by rw[t3.2.1,hx2]
 refine z309 (f:=1) (y:=rbF ((0:Nat):Int) (z44 (z21 s ((0:Nat):Int))) ⟨(ne0,1),8,0⟩) (by decide) hn V3 ho1 (by omega) hx3 mp rfl ky3 (by omega) ⟨.inr rfl,.inl l2⟩ (by omega) fun h4 ky4 V4 t4=>?_;have n4:=t4.1;rw[z150];unfold zdc;refine Wp.lett (y9 rfl ?_);rw[e17]
 have hg1:g0 (z8c s ((0:Nat):Int) (g0 s ((0:Nat):Int)) (z0 s ((0:Nat):Int))) ((1:Nat):Int)=g0 s 1:=by
  show ((29*(z44 (z21 (z8c s ((0:Nat):Int) (g0 s ((0:Nat):Int)) (z0 s ((0:Nat):Int))) ((1:Nat):Int))).length:Nat):Int)=((29*(z44 (z21 s ((1:Nat):Int))).length:Nat):Int);rw[r1]
 have hz1:z0 (z8c s ((0:Nat):Int) (g0 s ((0:Nat):Int)) (z0 s ((0:Nat):Int))) ((1:Nat):Int)=z0 s 1:=by
  show ((z21 (z8c s ((0:Nat):Int) (g0 s ((0:Nat):Int)) (z0 s ((0:Nat):Int))) ((1:Nat):Int)).length:Int)=((z21 s ((1:Nat):Int)).length:Int);rw[r1]
 rw[hg1,hz1] at V4;rw[r1] at ky4;refine Wp.ret ⟨rfl,ky4,by omega,?_,V4.less fun b hb hlt=>?_⟩
 ·refine ((t2.mono (S' := [rb]) fun _ h => nomatch h).trans' t3 fun b hb => ?_).trans' t4 fun b hb => ?_
  ·rcases List.mem_cons.1 hb with rfl | hb
   ·exact .inl (List.mem_cons_self ..)
   ·rw [List.mem_singleton.1 hb]
    exact .inr (Nat.le_refl _)
  ·rcases List.mem_cons.1 hb with rfl | hb
   ·exact .inl (List.mem_cons_self ..)
   ·rw [List.mem_singleton.1 hb]
    exact .inr (Nat.le_refl _)
 ·rcases hb with hb | hb
  ·exact⟨⟨.inl hb.1,by rcases hb.2 with h|h<;>omega⟩,by rcases hb.2 with h|h<;>omega⟩
  ·exact⟨⟨.inr hb,.inl (by omega)⟩,.inl (by omega)⟩
end
theorem eqRBal(a b c d:Int):zc7 Try.prog TRBal (.agg [.int .i64 a,.int .i64 b]) (.agg [.int .i64 c,.int .i64 d])=some (decide (a=c∧b=d)):=by
 have hf:flatB Try.prog TRBal [1,1]=true:=by kernel_rfl
 have he:eqL [1,1] [.int .i64 a,.int .i64 b] [.int .i64 c,.int .i64 d]=some ((a == c)&&((b == d)&&true)):=z29a rfl (z1bd _ _ _) (z29a rfl (z1bd _ _ _) rfl);rw[eq_flat hf he]
 by_cases h1:a=c
 ·by_cases h2 : b = d
  ·simp[h1,h2]
  ·simp[h2]
 ·simp[h1]
structure Rel (x:BoxS) (y:RB):Prop where
 ne:y.a.1=x.ne
 er:y.er=x.br
 c:0≤x.ne.c∧x.ne.c≤4611686018427387904
 file:x.file=0∨x.file=1
 z:x.ne.c=0→y.a.2=1∧y.inn=8
 nz:x.ne.c≠0→y.a.2=x.file∧y.inn=(if x.file=0 then x.m0 else x.m1)
 m0:0≤x.m0∧x.m0<900000
 m1:0≤x.m1∧x.m1<900000
theorem Rel.place{x:BoxS}{y:RB}(R:Rel x y):z1c x=(if y.inn≥8 then 1 - y.a.2 else y.a.2)∧z1d x=decide (y.inn≥8)∧(z1c x=0∨z1c x=1)∧0≤y.inn∧y.inn<900000∧(z1d x=false→y.inn=(if z1c x=0 then x.m0 else x.m1)):=by
 unfold z1c z1d;have hf:=R.file;have h0:=R.m0;have h1:=R.m1
 by_cases hc:x.ne.c=0
 ·obtain ⟨z1, z2⟩ := R.z hc
  rw[if_pos hc,if_pos hc,z1,z2];exact⟨rfl,rfl,.inl rfl,by decide,by decide,fun h=>nomatch h⟩
 ·obtain ⟨z1, z2⟩ := R.nz hc
  rw[if_neg hc,if_neg hc, ←z2,z1]
  have hi:0≤y.inn∧y.inn<900000:=by
   rw[z2]
   split<;>omega
  by_cases h8:y.inn<8
  ·rw [if_pos h8, if_pos h8, if_neg (show ¬ y.inn ≥ 8 by omega), decide_eq_false (show ¬ y.inn ≥ 8 by omega)]
   exact⟨rfl,rfl,hf,hi.1,hi.2,fun _=>z2⟩
  ·rw [if_neg h8, if_neg h8, if_pos (show y.inn ≥ 8 by omega), decide_eq_true (show y.inn ≥ 8 by omega)]
   refine⟨?_,rfl,?_,hi.1,hi.2,fun h=>nomatch h⟩
   ·rcases hf with h|h<;>simp[h]
   ·rcases hf with h|h<;>simp[h]
theorem Rel.broken{x:BoxS}{y:RB}(R:Rel x y)(e:Int):Rel {x with br:=e} ⟨y.a,y.inn,e⟩:=⟨R.ne,rfl,R.c,R.file,R.z,R.nz,R.m0,R.m1⟩
theorem Rel.next{x:BoxS}{y:RB}(R:Rel x y){t f:Int}(hc:x.ne.c<4611686018427387904)(hm:y.inn<800000):Rel (newX x t f) ⟨(zca x t f,z1c x),(if z1d x=true then 0 else y.inn)+1,0⟩:=by
 obtain⟨p1,p2,p3,p4,p5,p6⟩:=R.place;have h0:=R.m0;have h1:=R.m1;have hc0:=R.c
 have hi:(if z1d x=true then 0 else y.inn)+1=(if z1d x=true then 0 else if z1c x=0 then x.m0 else x.m1)+1:=by
  cases h:z1d x with
  |true=>rfl
  |false=>rw[p6 h]
 have hb:0≤(if z1d x=true then (0:Int) else if z1c x=0 then x.m0 else x.m1)+1∧(if z1d x=true then (0:Int) else if z1c x=0 then x.m0 else x.m1)+1<900000:=by
  rw[←hi]
  split<;>omega
 have hm0:(newX x t f).m0=if z1c x=0 then (if z1d x=true then (0:Int) else if z1c x=0 then x.m0 else x.m1)+1 else x.m0:=by
  show (z23d x (z1c x).toNat _).m0=_;unfold z23d
  rcases p3 with h|h<;>rw[h]<;>rfl
 have hm1:(newX x t f).m1=if z1c x=0 then x.m1 else (if z1d x=true then (0:Int) else if z1c x=0 then x.m0 else x.m1)+1:=by
  show (z23d x (z1c x).toNat _).m1=_;unfold z23d
  rcases p3 with h|h<;>rw[h]<;>rfl
 refine⟨rfl,rfl,⟨by show 0≤x.ne.c+1;omega,by show x.ne.c+1≤_;omega⟩,p3,fun h=>?_,fun _=>⟨rfl,?_⟩,?_,?_⟩
 ·have h : x.ne.c + 1 = 0 := h
  omega
 ·rw [hm0, hm1]
  show (if z1d x=true then 0 else y.inn)+1=if z1c x=0 then _ else _
  rw[hi]
  by_cases hp:z1c x=0
  ·simp only[if_pos hp]
  ·simp only[if_neg hp]
 ·rw [hm0]
  by_cases hp:z1c x=0
  ·rw [if_pos hp]
   exact hb
  ·rw [if_neg hp]
   exact h0
 ·rw [hm1]
  by_cases hp:z1c x=0
  ·rw [if_pos hp]
   exact h1
  ·rw [if_neg hp]
   exact hb
section
variable {n d D db rb yb B:Nat}{lo lo':Nat→Prop}{h H H':AHeap}{s:DS}{x:BoxS}{y:RB}{t f:Int}{Q:ARes→AHeap→Prop}
set_option maxHeartbeats 4000000 in
theorem rwrite_w(hn:1000000<n)(V:RefAt lo h rb s)(ho:SOk s B)(hB:B<400000)(hx:h.ex=[])(Rl:Rel x y)(hm8:y.inn<800000)(ky:RowH h yb z194 (rbC rb y))(hyb:yb<h.next)(hyl:lo yb)(hyr:yb≠rb):
  ∃H' y',world n (d+6) 24 [.ptr yb 0,.agg [.int .i64 t,.int .i64 f]] h=some (.ret (.int .i64 (wr s x t f).1),H')∧RowH H' yb z194 (rbC rb y')∧Rel (wr s x t f).2.1 y'∧RefAt (shr lo h.next H'.next) H' rb (wr s x t f).2.2∧Tch [rb,yb] h H':=by
 suffices hK:Wp (world n (d+6) 24 [.ptr yb 0,.agg [.int .i64 t,.int .i64 f]] h) fun r H'=>∃y',r=.ret (.int .i64 (wr s x t f).1)∧RowH H' yb z194 (rbC rb y')∧Rel (wr s x t f).2.1 y'∧RefAt (shr lo h.next H'.next) H' rb (wr s x t f).2.2∧Tch [rb,yb] h H' by
  obtain⟨_,H',e,y',rfl,k⟩:=hK;exact⟨H',y',e,k⟩
 obtain⟨p1,p2,p3,p4,p5,p6⟩:=Rl.place;have hne:=Rl.ne;have hcc:=Rl.c;rw[z245];unfold z93;refine y1a (Mem.nil [] h) rfl fun h2 M2=>?_;have kv2:=M2.at0.1;have l2:=M2.at0.2.1;have t2:=M2.tch;have n2:=t2.1;have hx2:h2.ex=[]:=by rw[t2.2.1,hx]
 have V2:RefAt lo h2 rb s:=V.tch t2 (fun _ h=>nomatch h) (fun _ h _=>h);have ky2:=ky.tch t2 hyb (fun h=>nomatch h)
 have hrb:rb<h.next:=by
  obtain⟨_,_,VD⟩:=V;exact VD.hrb
 have g0:(rbC rb y)[0+0]? =some (.ptr rb 0):=rfl;have g1:(rbC rb y)[0+1+0]? =some (.int .i64 y.a.1.t):=rfl;have g2:(rbC rb y)[0+1+1]? =some (.int .i64 y.a.1.f):=rfl;have g3:(rbC rb y)[0+3]? =some (.int .u64 y.a.1.c):=rfl;have g4:(rbC rb y)[0+4]? =some (.int .i64 y.a.2):=rfl;have g5:(rbC rb y)[0+5]? =some (.int .i64 y.inn):=rfl;have g6:(rbC rb y)[0+6]? =some (.int .i64 y.er):=rfl;have v0:[AV.int .i64 t,.int .i64 f][0+0]? =some (.int .i64 t):=rfl;have v1:[AV.int .i64 t,.int .i64 f][0+1]? =some (.int .i64 f):=rfl
 -- nothing is done
 have same:∀e:Int,wr s x t f=(e,x,s)→Wp (some (ARes.ret (.int .i64 e),h2)) fun r H'=>∃y',r=.ret (.int .i64 (wr s x t f).1)∧RowH H' yb z194 (rbC rb y')∧Rel (wr s x t f).2.1 y'∧RefAt (shr lo h.next H'.next) H' rb (wr s x t f).2.2∧Tch [rb,yb] h H':=fun e hw=>by
  rw[hw];exact Wp.ret ⟨y,rfl,ky2,Rl,V2.less fun _ h _=>h.1,t2.mono fun _ h=>nomatch h⟩
 refine Wp.obind (z8 _ _) (Wp.obind (z6 _ _ _) (Wp.obind (y3 ky2 g6) (Wp.obind (z5 _ _) (Wp.lett ?_))))
 by_cases h0:y.er=0
 case neg=>
  have hb:x.br≠0:=by rw[←Rl.er];exact h0
  refine yc (z11b h0) (Wp.obind (z8 _ _) (Wp.obind (z6 _ _ _) (Wp.obind (y3 ky2 g6) (Wp.obind (z5 _ _) ?_))));refine same y.er ?_;have hr:z2f2 x t f=x.br:=if_pos hb;unfold wr;rw[if_pos (by rw[hr];exact hb),hr,Rl.er]
 have hbr:x.br=0:=by rw[←Rl.er];exact h0
 refine y9 (ze6 h0) (Wp.obind (kv2.ldAll rfl) (Wp.callN (rmay_w (n:=n) (d:=d+4)) (Wp.obind (z13 _) (Wp.lett ?_))))
 by_cases hb:z192 t f
 case neg=>
  rw[decide_eq_false hb];refine yc rfl (same 2 ?_)
  have hr:z2f2 x t f=2:=by
   unfold z2f2;rw[if_neg (by rw[hbr];simp),if_neg hb]
  unfold wr;rw[if_pos (by rw[hr];decide),hr]
 rw[decide_eq_true hb];refine y9 rfl (y7 fun k25 e25=>?_)
 have K25:Wp (k25 (!z2f4 t f y.a.1.t y.a.1.f) h2) fun r H'=>∃y',r=.ret (.int .i64 (wr s x t f).1)∧RowH H' yb z194 (rbC rb y')∧Rel (wr s x t f).2.1 y'∧RefAt (shr lo h.next H'.next) H' rb (wr s x t f).2.2∧Tch [rb,yb] h H':=by
  rw[e25];cases hmay:z2f4 t f y.a.1.t y.a.1.f with
  |false=>
   refine yc rfl (same 5 ?_);rw[hne] at hmay
   have hr:z2f2 x t f=5:=by
    unfold z2f2;rw[if_neg (by rw[hbr];simp),if_pos hb,if_neg (by rw[hmay];decide)]
   unfold wr;rw[if_pos (by rw[hr];decide),hr]
  |true=>
  have hr:z2f2 x t f=0:=by
   unfold z2f2;rw[if_neg (by rw[hbr];simp),if_pos hb,if_pos (by rw[←hne];exact hmay)]
  refine y9 rfl (Wp.obind (kv2.ldAll rfl) (Wp.obind (z8 _ _) (Wp.obind (z6 _ _ _) (Wp.obind (show z2b h2 2 (.ptr yb (0+1))=some [.int .i64 y.a.1.t,.int .i64 y.a.1.f] from ky2.ld (o:=0+1) (n:=2) (show 0+1+2≤7 by decide)) (Wp.obind (eqRBal _ _ _ _) ?_)))))
  by_cases heq:t=y.a.1.t∧f=y.a.1.f
  ·rw [decide_eq_true heq]
   refine yc rfl (same 0 ?_);unfold wr;rw[if_neg (by rw[hr];decide),if_pos (by rw[←hne];exact heq)]
  rw[decide_eq_false heq];refine y9 rfl (Wp.obind (z8 _ _) (Wp.obind (z6 _ _ _) (Wp.obind (y3 ky2 g3) (Wp.obind (z5 _ _) (Wp.lett ?_)))))
  by_cases hc:y.a.1.c=4611686018427387904
  ·refine yc (zbb hc) (same 5 ?_)
   unfold wr;rw[if_neg (by rw[hr];decide),if_neg (by rw[←hne];exact heq),if_pos (by rw[←hne];omega)]
  have hcx:x.ne.c<4611686018427387904:=by
   rw[hne] at hc;omega
  refine y9 (z8d hc) (Wp.obind (z8 _ _) (Wp.obind (z6 _ _ _) (Wp.obind (y3 ky2 g4) (Wp.obind (z5 _ _) (Wp.obind (z8 _ _) (Wp.obind (z6 _ _ _) (Wp.obind (y3 ky2 g5) (Wp.obind (z5 _ _) (Wp.lett (y7 fun k55 e55=>?_))))))))))
  -- the steps
  obtain⟨g,hg⟩:∃g:Nat,z1c x=(g:Int)∧g<2:=by
   rcases p3 with h|h
   ·exact⟨0,h,by decide⟩
   ·exact⟨1,h,by decide⟩
  obtain⟨hg,hg2⟩:=hg;obtain⟨u,hu⟩:∃u,z2e (z10b (zca x t f))=u:=⟨_,rfl⟩;have hyo:z17a (zca x t f):=⟨by show (1:Int)≤x.ne.c+1;omega,by show x.ne.c+1≤4611686018427387904;omega,hb⟩
  have hul:u.length=29:=by
   rw[←hu,za4,z13d]
  have hw:wr s x t f=if (z12a s (g:Int) (z1d x) u).1≠0 then ((z12a s (g:Int) (z1d x) u).1,{x with br:=(z12a s (g:Int) (z1d x) u).1},(z12a s (g:Int) (z1d x) u).2) else (0,newX x t f,(z12a s (g:Int) (z1d x) u).2):=by
   unfold wr;rw[if_neg (by rw[hr];decide),if_neg (by rw[←hne];exact heq),if_neg (by omega),hg,hu]
  -- an error, or all is well
  have last:∀(k66:Int→AHeap→R) (e:Int) (s':DS) (H3:AHeap) (inn':Int),inn'=(if z1d x=true then 0 else y.inn)→
    (k66 = fun (t7_67 : Int) (h_68 : AHeap) => lett ((t7_67 : Int) != 0) fun (t133 : Bool) => ifB t133
     (obind (z34 (.ptr yb 0)) fun t136=>obind (z20 6 t136) fun t137=>obind (z27 h_68 1 [.int .i64 t7_67] t137) fun h_75=>some (.ret (.int .i64 t7_67),h_75))
     (obind (z2b h_68 2 (.ptr h.next 0)) fun t143 => obind (z34 (.ptr yb 0)) fun t145 => obind (z20 3 t145) fun t146 => obind (z9 h_68 t146) fun v147 => obind (z17 .u64 v147) fun t147 =>
      lett (IntKind.u64.wrap (t147+1)) fun (t148:Int)=>lett (IntKind.i64.wrap (inn'+1)) fun (t151:Int)=>
      obind (z34 (.ptr yb 0)) fun t152=>obind (z20 1 t152) fun t153=>obind (z27 h_68 2 t143 t153) fun h_88=>
      obind (z34 (.ptr yb 0)) fun t154=>obind (z20 3 t154) fun t155=>obind (z27 h_88 1 [.int .u64 t148] t155) fun h_92=>
      obind (z34 (.ptr yb 0)) fun t156=>obind (z20 4 t156) fun t157=>obind (z27 h_92 1 [.int .i64 (g:Int)] t157) fun h_96=>
      obind (z34 (.ptr yb 0)) fun t158=>obind (z20 5 t158) fun t159=>obind (z27 h_96 1 [.int .i64 t151] t159) fun h_100=>
      some (.ret (.int .i64 0),h_100)))→
    z12a s (g:Int) (z1d x) u=(e,s')→RefAt (shr lo h.next H3.next) H3 rb s'→RowH H3 yb z194 (rbC rb y)→RowH H3 h.next TRBal [.int .i64 t,.int .i64 f]→Tch [rb,yb] h H3→
    Wp (k66 e H3) fun r H'=>∃y',r=.ret (.int .i64 (wr s x t f).1)∧RowH H' yb z194 (rbC rb y')∧Rel (wr s x t f).2.1 y'∧RefAt (shr lo h.next H'.next) H' rb (wr s x t f).2.2∧Tch [rb,yb] h H':=by
   intro k66 e s' H3 inn' hinn e66 hst V3 ky3 kv3 t3;have n3:=t3.1;have tmy:∀b∈[yb],b∈[rb,yb]∨h.next≤b:=fun b hb=>.inl (List.mem_cons_of_mem _ hb)
   have ys:∀b∈[yb],shr lo h.next H3.next b∨H3.next≤b:=fun b hb=>by
    rw[List.mem_singleton.1 hb];exact .inl ⟨hyl,.inl hyb⟩
   rw[hst] at hw;rw[e66];refine Wp.lett ?_
   by_cases he:e=0
   ·rw [if_neg (by rw [he]; simp)] at hw
    rw[hw];refine y9 (ze6 he) (Wp.obind (kv3.ldAll rfl) (Wp.obind (z8 _ _) (Wp.obind (z6 _ _ _) (Wp.obind (y3 ky3 g3) (Wp.obind (z5 _ _) (y13 (by rw[hne];omega) (by rw[hne];omega) (yd (by rw[hinn];split<;>omega) (by rw[hinn];split<;>omega) (Wp.obind (z8 _ _) (Wp.obind (z6 _ _ _) ?_)))))))));refine y32 ky3 rfl (show 0+1+2≤7 by decide) rfl fun H4 k4 t4 n4=>Wp.obind (z8 _ _) (Wp.obind (z6 _ _ _) ?_);refine Wp.st1 k4 (show 0+3<7 by decide) rfl fun H5 k5 t5 n5=>Wp.obind (z8 _ _) (Wp.obind (z6 _ _ _) ?_);refine Wp.st1 k5 (show 0+4<7 by decide) rfl fun H6 k6 t6 n6=>Wp.obind (z8 _ _) (Wp.obind (z6 _ _ _) ?_);refine Wp.st1 k6 (show 0+5<7 by decide) rfl fun H7 k7 t7 n7=>?_;have t47:=((t4.trans t5).trans t6).trans t7;have hy0:y.er=0:=h0;refine Wp.ret ⟨⟨(zca x t f,z1c x),(if z1d x=true then 0 else y.inn)+1,0⟩,rfl,?_,Rl.next hcx hm8,?_,t3.trans' t47 tmy⟩
    ·have ec : rbC rb ⟨(zca x t f, z1c x), (if z1d x = true then 0 else y.inn) + 1, 0⟩ = [.ptr rb 0, .int .i64 t, .int .i64 f, .int .u64 (y.a.1.c + 1), .int .i64 (g : Int), .int .i64 (inn' + 1), .int .i64 y.er] := by
      rw[hinn,hne,hy0, ←hg];rfl
     rw[ec];exact k7
    ·have := V3.tch t47 ys (fun _ h _ => h)
     exact this.less fun b hb _=>⟨hb.1,by have:=t47.1;rcases hb.2 with h|h<;>omega⟩
   ·rw [if_pos he] at hw
    rw[hw];refine yc (z11b he) (Wp.obind (z8 _ _) (Wp.obind (z6 _ _ _) (Wp.st1 ky3 (show 0+6<7 by decide) rfl fun H4 k4 t4 n4=>?_)));refine Wp.ret ⟨⟨y.a,y.inn,e⟩,rfl,k4,Rl.broken e,?_,t3.trans' t4 tmy⟩;have:=V3.tch t4 ys (fun _ h _=>h);exact this.less fun b hb _=>⟨hb.1,by rcases hb.2 with h|h<;>omega⟩
  have body:∀(e1:Int) (s1:DS) (H3:AHeap) (inn':Int),inn'=(if z1d x=true then 0 else y.inn)→(z17f s (g:Int) (z1d x)=(e1,s1)∨(e1=40∧s1=s∧s.p=0∧z17f s (g:Int) (z1d x)=(0,s)))→SOk s1 (B+1)→RefAt (shr lo h.next H3.next) H3 rb s1→RowH H3 yb z194 (rbC rb y)→RowH H3 h.next TRBal [.int .i64 t,.int .i64 f]→Tch [rb,yb] h H3→h.next<H3.next→
    Wp (k55 (g:Int) inn' e1 H3) fun r H'=>∃y',r=.ret (.int .i64 (wr s x t f).1)∧RowH H' yb z194 (rbC rb y')∧Rel (wr s x t f).2.1 y'∧RefAt (shr lo h.next H'.next) H' rb (wr s x t f).2.2∧Tch [rb,yb] h H':=by
   intro e1 s1 H3 inn' hinn hst ho1 V3 ky3 kv3 t3 l3;have n3:=t3.1;have hx3:H3.ex=[]:=by rw[t3.2.1,hx]
   rw[e55];refine Wp.lett (y7 fun k60 e60=>?_)
   by_cases he1:e1=0
   case neg=>
    refine y9 (z8d he1) ?_;rw[e60];refine Wp.lett (y7 fun k66 e66=>y9 (z8d he1) ?_);refine last k66 e1 s1 H3 inn' hinn e66 ?_ V3 ky3 kv3 t3
    rcases hst with hst|⟨rfl,rfl,hp0,hst⟩
    ·unfold z12a
     rw[hst,if_pos (by exact he1)]
    ·have r40 : zd7 s1.p (g : Int) = 40 := if_pos hp0
     have e40:z121 s1 (g:Int) (chA u)=40:=by
      unfold z121;rw[if_neg (by rw[r40];decide),r40]
     unfold z12a;rw[hst,if_neg (by simp),if_pos (by rw[e40];decide),e40,z162 (by rw[e40];decide)]
   have hst:z17f s (g:Int) (z1d x)=(0,s1):=by
    rcases hst with hst|⟨h40,_⟩
    ·rw[hst,he1]
    ·omega
   have hfr:=rframe_w (n:=n) (d:=d) (h:=H3) hyo (by omega) (by rw[hx3];rfl);rw[hu] at hfr;obtain⟨D3,vs3,VD3⟩:=id V3;obtain⟨h4,e4,t4,V4⟩:=z29b (n:=n) (d:=d+1) (c:=chA u) hn VD3 ho1 (by omega) hx3 (g:Int);have n4:=t4.1;have ky4:=ky3.tch t4 (by omega) (fun h=>hyr (List.mem_singleton.1 h));have kv4:=kv3.tch t4 l3 (fun h=>by have:=List.mem_singleton.1 h;omega);have T4:=t3.trans' t4 fun b hb=>.inl (by rw[List.mem_singleton.1 hb];exact List.mem_cons_self ..);have V4':RefAt (shr lo h.next h4.next) h4 rb (z15d s1 (g:Int) (chA u)):=V4.less fun b hb hlt=>⟨⟨hb.1,by rcases hb.2 with h|h<;>omega⟩,by rcases hb.2 with h|h<;>omega⟩;refine yc (zbb he1) (Wp.obind (z8 _ _) (Wp.obind (z6 _ _ _) (Wp.obind (y3 ky3 g0) (Wp.obind (z8 _ _) (Wp.obind (z6 _ _ _) (Wp.obind (y3 ky3 g3) (Wp.obind (z5 _ _) (y13 (by rw[hne];omega) (by rw[hne];omega) (Wp.obind (kv3.ldAll rfl) ?_)))))))));rw[show y.a.1.c+1=(zca x t f).c by rw[hne];rfl];refine Wp.callN hfr (Wp.obind (z16 _) (Wp.chk (z1ad rfl (z1ad rfl (z1ad (z83 (by kernel_rfl) (y3 ky3 g0)) rfl))) (Wp.callN e4 (Wp.obind (z5 _ _) ?_))));rw[e60];refine Wp.lett (y7 fun k66 e66=>?_)
   by_cases he2:z121 s1 (g:Int) (chA u)=0
   case neg=>
    refine y9 (z8d he2) (last k66 _ _ h4 inn' hinn e66 ?_ V4' ky4 kv4 T4);unfold z12a;rw[hst,if_neg (by simp),if_pos he2]
   have ho4:=ho1.act (z:=(g:Int)) (c:=chA u) (.inl rfl);obtain⟨D4,vs4,VD4⟩:=id V4;obtain⟨h5,e5,t5,V5⟩:=sync_r (n:=n) (d:=d+2) hn VD4 ho4 (by show B+1+u.length+1<900000;omega) (g:Int);have n5:=t5.1;have ky5:=ky4.tch t5 (by omega) (fun h=>hyr (List.mem_singleton.1 h));have kv5:=kv4.tch t5 (by omega) (fun h=>by have:=List.mem_singleton.1 h;omega);refine yc (zbb he2) (Wp.obind (z8 _ _) (Wp.obind (z6 _ _ _) (Wp.obind (y3 ky4 g0) (Wp.callN e5 (Wp.obind (z5 _ _) ?_)))));refine last k66 _ _ h5 inn' hinn e66 ?_ (V5.less fun b hb hlt=>⟨⟨⟨hb.1,by rcases hb.2 with h|h<;>omega⟩,by rcases hb.2 with h|h<;>omega⟩,by rcases hb.2 with h|h<;>omega⟩) ky5 kv5 (T4.trans' t5 fun b hb=>.inl (by rw[List.mem_singleton.1 hb];exact List.mem_cons_self ..));unfold z12a;rw[hst,if_neg (by simp),if_neg (by rw[he2];simp)]
  have t2':Tch [rb,yb] h h2:=t2.mono fun _ h=>nomatch h
  by_cases hfr:y.inn≥8
  ·have hN : z1d x = true := by rw [p2]; exact decide_eq_true hfr
   rw[if_pos hfr,hg] at p1;obtain⟨D2,vs2,VD2⟩:=id V2;obtain⟨h3,e3,t3⟩:=see_r (n:=n) (d:=d+2) hn VD2 ho (by omega) (g:Int);have n3:=t3.1;have hx3:h3.ex=[]:=by rw[t3.2.1,hx2]
   have ky3:=ky2.tch t3 (by omega) (fun h=>nomatch h);have kv3:=kv2.tch t3 l2 (fun h=>nomatch h);have V3:RefAt lo h3 rb s:=V2.tch t3 (fun _ h=>nomatch h) (fun _ h _=>h);obtain⟨D3,vs3,VD3⟩:=id V3
   have hsee:z1e4 s (g:Int)=(s.fs g).seen:=by
    unfold z1e4;rw[if_pos (by omega),Int.toNat_natCast]
   rw[hsee] at e3;refine yc (by rw[decide_eq_true_eq];exact hfr) (yd (by omega) (by omega) ?_);rw[←p1];refine Wp.obind (z8 _ _) (Wp.obind (z6 _ _ _) (Wp.obind (y3 ky2 g0) (Wp.callN e3 (Wp.obind (z32 _) (Wp.obind (show z451 0 (zcd (s.fs g).seen)=some (.bool (s.fs g).seen.th) from rfl) (Wp.obind (z13 _) (y7 fun j100 e100=>?_)))))));have hT3:Tch [rb,yb] h h3:=t2'.trans (t3.mono fun _ h=>nomatch h)
   have rem:(z17f s (g:Int) (z1d x)=(z121 s (g:Int) chR,z15d s (g:Int) chR)∨(z121 s (g:Int) chR=40∧z15d s (g:Int) chR=s∧s.p=0∧z17f s (g:Int) (z1d x)=(0,s)))→Wp (j100 true h3) fun r H'=>∃y',r=.ret (.int .i64 (wr s x t f).1)∧RowH H' yb z194 (rbC rb y')∧Rel (wr s x t f).2.1 y'∧RefAt (shr lo h.next H'.next) H' rb (wr s x t f).2.2∧Tch [rb,yb] h H':=by
    intro hst;obtain⟨h4,e4,t4,V4⟩:=z29b (n:=n) (d:=d+1) (c:=chR) hn VD3 ho (by omega) hx3 (g:Int);have n4:=t4.1;have ky4:=ky3.tch t4 (by omega) (fun h=>hyr (List.mem_singleton.1 h));have kv4:=kv3.tch t4 (by omega) (fun h=>by have:=List.mem_singleton.1 h;omega);rw[e100];refine y7 fun k139 e139=>yc rfl (Wp.obind (z8 _ _) (Wp.obind (z6 _ _ _) (Wp.obind (y3 ky3 g0) (Wp.callN e4 (Wp.obind (z5 _ _) ?_)))));rw[e139];exact body _ _ h4 0 (by rw[if_pos hN]) hst (ho.act (.inr (.inr rfl))) (V4.less fun b hb hlt=>⟨hb.1,by rcases hb.2 with h|h<;>omega⟩) ky4 kv4 (hT3.trans' t4 fun b hb=>.inl (by rw[List.mem_singleton.1 hb];exact List.mem_cons_self ..)) (by omega)
   have hthere:there s (g:Int)=(s.fs g).seen.th:=by
    unfold there;rw[Int.toNat_natCast]
   cases hth:(s.fs g).seen.th with
   |true=>
    refine yc rfl (rem (.inl ?_));unfold z17f;rw[hN,hthere,hth];rfl
   |false=>
    have hst:z17f s (g:Int) (z1d x)=(0,s):=by
     unfold z17f;rw[hN,hthere,hth];rfl
    refine y9 rfl (Wp.obind (z8 _ _) (Wp.obind (z6 _ _ _) (Wp.obind (y3 ky3 g0) (Wp.obind (z8 _ _) (Wp.obind (z6 _ _ _) (Wp.obind (y3 VD3.row (show D3[0+96]? =some (.int .i64 s.p) from VD3.cp)) (Wp.obind (z5 _ _) (Wp.lett ?_))))))))
    by_cases hp0:s.p=0
    ·have r40 : zd7 s.p (g : Int) = 40 := if_pos hp0
     have e40:z121 s (g:Int) chR=40:=by
      unfold z121;rw[if_neg (by rw[r40];decide),r40]
     rw[show ((s.p:Int) == 0)=true from zbb hp0];exact rem (.inr ⟨e40,z162 (by rw[e40];decide),hp0,hst⟩)
    ·rw [show ((s.p : Int) == 0) = false from z8d hp0, e100]
     refine y7 fun k139 e139=>y9 rfl ?_;rw[e139];exact body 0 s h3 0 (by rw[if_pos hN]) (.inl hst) (ho.mono (by omega)) (V3.less fun b hb _=>hb.1) ky3 kv3 hT3 (by omega)
  ·have hN : z1d x = false := by rw [p2]; exact decide_eq_false hfr
   rw[if_neg hfr,hg] at p1;refine y9 (by rw[decide_eq_false_iff_not];exact hfr) ?_;rw[←p1];refine body 0 s h2 y.inn (by rw[hN];rfl) (.inl ?_) (ho.mono (by omega)) (V2.less fun b hb _=>hb.1) ky2 kv2 t2' l2;unfold z17f;rw[hN];rfl
 refine Wp.obind (z6 _ _ _) (Wp.obind (y3 kv2 v0) (Wp.obind (z5 _ _) (Wp.obind (z8 _ _) (Wp.obind (z6 _ _ _) (Wp.obind (z6 _ _ _) (Wp.obind (y3 ky2 g1) (Wp.obind (z5 _ _) (Wp.lett ?_))))))))
 by_cases hlt:t<y.a.1.t
 ·refine yc (by rw [decide_eq_true_eq]; exact hlt) ?_
  have:z2f4 t f y.a.1.t y.a.1.f=false:=by
   unfold z2f4;rw[if_pos (by omega),decide_eq_false (by omega)]
  rw[this] at K25;exact K25
 refine y9 (by rw[decide_eq_false_iff_not];exact hlt) (Wp.obind (z6 _ _ _) (Wp.obind (y3 kv2 v0) (Wp.obind (z5 _ _) (Wp.obind (z8 _ _) (Wp.obind (z6 _ _ _) (Wp.obind (z6 _ _ _) (Wp.obind (y3 ky2 g1) (Wp.obind (z5 _ _) (Wp.lett ?_)))))))))
 by_cases hte:t=y.a.1.t
 case neg=>
  refine y9 (z8d hte) ?_
  have:z2f4 t f y.a.1.t y.a.1.f=true:=by
   unfold z2f4;rw[if_pos hte,decide_eq_true (by omega)]
  rw[this] at K25;exact K25
 refine yc (zbb hte) (Wp.obind (z8 _ _) (Wp.obind (z6 _ _ _) (Wp.obind (z6 _ _ _) (Wp.obind (y3 ky2 g2) (Wp.obind (z5 _ _) (Wp.lett ?_))))))
 by_cases hf1:y.a.1.f= -1
 ·refine y9 (ze6 hf1) ?_
  have:z2f4 t f y.a.1.t y.a.1.f=true:=by
   unfold z2f4;rw[if_neg (by simpa using hte),hf1];rfl
  rw[this] at K25;exact K25
 refine yc (z11b hf1) (Wp.obind (z8 _ _) (Wp.obind (z6 _ _ _) (Wp.obind (z6 _ _ _) (Wp.obind (y3 ky2 g2) (Wp.obind (z5 _ _) (Wp.obind (z6 _ _ _) (Wp.obind (y3 kv2 v1) (Wp.obind (z5 _ _) (Wp.lett ?_)))))))))
 have:(y.a.1.f != f)= !z2f4 t f y.a.1.t y.a.1.f:=by
  unfold z2f4;rw[if_neg (by simpa using hte),show (y.a.1.f == -1)=false from z8d hf1,Bool.false_or]
  by_cases h:f=y.a.1.f
  ·rw [ze6 h.symm, zbb h]
   rfl
  ·rw [z11b (fun hh => h hh.symm), z8d h]
   rfl
 rw[this];exact K25
end
theorem SOk.wr{s:DS}{B:Nat}(k:SOk s B)(x:BoxS)(t f:Int):SOk (wr s x t f).2.2 (B+40):=by
 have hl:∀e:Ent,(z2e (z10b e)).length=29:=fun e=>by rw[za4,z13d]
 have hs:∀(g:Int) (fr:Bool) (e:Ent),SOk (z12a s g fr (z2e (z10b e))).2 (B+40):=fun g fr e=>by
  have h1:SOk (z17f s g fr).2 (B+1):=by
   unfold z17f
   split
   ·exact(k.act (.inr (.inr rfl))).mono (by show B+0+1≤B+1;omega)
   ·exact k.mono (by omega)
  have h2:SOk (z15d (z17f s g fr).2 g (chA (z2e (z10b e)))) (B+1+29+1):=(h1.act (c:=chA (z2e (z10b e))) (.inl rfl)).mono (by show B+1+(z2e (z10b e)).length+1≤_;rw[hl];omega);unfold z12a
  split
  ·exact h1.mono (by omega)
  ·split
   ·exact h2.mono (by omega)
   ·exact(h2.syn g).mono (by omega)
 unfold Go.Proofs.Yteecmjmglmpbpaa.wr
 split
 ·exact k.mono (by omega)
 ·split
  ·exact k.mono (by omega)
  ·split
   ·exact k.mono (by omega)
   ·split
    ·exact hs _ _ _
    ·exact hs _ _ _
theorem wr_m{s:DS}{x:BoxS}{t f:Int}{M:Int}(h0:0≤x.m0∧x.m0≤M)(h1:0≤x.m1∧x.m1≤M):(0≤(wr s x t f).2.1.m0∧(wr s x t f).2.1.m0≤M+1)∧(0≤(wr s x t f).2.1.m1∧(wr s x t f).2.1.m1≤M+1):=by
 have hx:(0≤x.m0∧x.m0≤M+1)∧(0≤x.m1∧x.m1≤M+1):=by omega
 unfold wr
 split
 ·exact hx
 ·split
  ·exact hx
  ·split
   ·exact hx
   ·split
    ·exact hx
    ·have hb : 0 ≤ (if z1d x = true then (0 : Int) else if z1c x = 0 then x.m0 else x.m1) + 1 ∧ (if z1d x = true then (0 : Int) else if z1c x = 0 then x.m0 else x.m1) + 1 ≤ M + 1 := by
      split
      ·omega
      ·split<;>omega
     show (0≤(z23d x (z1c x).toNat ((if z1d x=true then (0:Int) else if z1c x=0 then x.m0 else x.m1)+1)).m0∧(z23d x (z1c x).toNat ((if z1d x=true then (0:Int) else if z1c x=0 then x.m0 else x.m1)+1)).m0≤M+1)∧(0≤(z23d x (z1c x).toNat ((if z1d x=true then (0:Int) else if z1c x=0 then x.m0 else x.m1)+1)).m1∧(z23d x (z1c x).toNat ((if z1d x=true then (0:Int) else if z1c x=0 then x.m0 else x.m1)+1)).m1≤M+1);unfold z23d
     split
     ·exact⟨hb,hx.2⟩
     ·exact⟨hx.1,hb⟩
theorem z25a{f:Int}{es:List Ent}{a:Ent×Int}(h:z29c a.1.c es=false):z3b f es a=a:=by
 refine z218 es a fun e he=>?_;have:=List.any_eq_false.1 h e he;rw[decide_eq_true_eq] at this;omega
theorem z217{f:Int}:∀{es:List Ent} {a b:Ent×Int},a.1=b.1→z29c a.1.c es=true→z3b f es a=z3b f es b∧(z3b f es a).2=f∧a.1.c<(z3b f es a).1.c
 |[],_,_,_,h=>by cases h
 |e::es,a,b,hab,h=>by
  show z3b f es (if e.c>a.1.c then (e,f) else a)=z3b f es (if e.c>b.1.c then (e,f) else b)∧(z3b f es (if e.c>a.1.c then (e,f) else a)).2=f∧a.1.c<(z3b f es (if e.c>a.1.c then (e,f) else a)).1.c
  by_cases hc:e.c>a.1.c
  ·rw [if_pos hc, if_pos (by rw [← hab]; exact hc)]
   refine⟨rfl,?_⟩;cases h2:z29c e.c es with
   |true=>
    obtain⟨_,h3,h4⟩:=z217 (f:=f) (es:=es) (a:=(e,f)) (b:=(e,f)) rfl h2;have h4:e.c<(z3b f es (e,f)).1.c:=h4;exact⟨h3,by omega⟩
   |false=>
    rw[z25a (a:=(e,f)) h2];exact⟨rfl,hc⟩
  ·rw [if_neg hc, if_neg (by rw [← hab]; exact hc)]
   refine z217 hab ?_;have h:(decide (e.c>a.1.c)||z29c a.1.c es)=true:=h;rw[decide_eq_false hc,Bool.false_or] at h;exact h
theorem z3e4{f:Int}:∀{es:List Ent} {a:Ent×Int},(∀e∈es,z17a e)→(0≤a.1.c∧a.1.c≤4611686018427387904)→0≤(z3b f es a).1.c∧(z3b f es a).1.c≤4611686018427387904
 |[],_,_,h=>h
 |e::es,a,ho,h=>by
  show 0≤(z3b f es (if e.c>a.1.c then (e,f) else a)).1.c∧(z3b f es (if e.c>a.1.c then (e,f) else a)).1.c≤4611686018427387904;refine z3e4 (fun e he=>ho e (List.mem_cons_of_mem _ he)) ?_
  split
  ·have := ho e (List.mem_cons_self ..)
   exact⟨by have:=this.1;show 0≤e.c;omega,this.2.1⟩
  ·exact h
theorem rel_open{s:DS}(h0:(z21 s 0).length <600000)(h1:(z21 s 1).length <600000):Rel (opX s) (opY s):=by
 have l0:=z104 (z21 s 0);have l1:=z104 (z21 s 1);have hn0:(0:Int)≤ne0.c∧ne0.c≤4611686018427387904:=by decide
 have ok0:=z3e4 (f:=0) (a:=(ne0,0)) (z360 (z4f (z21 s 0)).1) hn0;have ok1:=z3e4 (f:=1) (a:=z3b 0 (z44 (z21 s 0)) (ne0,0)) (z360 (z4f (z21 s 1)).1) ok0
 have hm0:0≤(opX s).m0∧(opX s).m0 <900000:=by
  show 0≤((z44 (z21 s 0)).length:Int)∧((z44 (z21 s 0)).length:Int)<900000;omega
 have hm1:0≤(opX s).m1∧(opX s).m1 <900000:=by
  show 0≤((z44 (z21 s 1)).length:Int)∧((z44 (z21 s 1)).length:Int)<900000;omega
 generalize he0:z44 (z21 s 0)=e0 at *
 generalize he1:z44 (z21 s 1)=e1 at *
 have hx:opX s=⟨(e0.length:Int),(e1.length:Int),(z3b 1 e1 (z3b 0 e0 (ne0,0))).1,(z3b 1 e1 (z3b 0 e0 (ne0,0))).2,0⟩:=by
  unfold opX opP;rw[he0,he1]
 have hy:opY s=rbF 1 e1 (rbF 0 e0 ⟨(ne0,1),8,0⟩):=by
  unfold opY;rw[he0,he1]
 have ok1:0≤(z3b 1 e1 (z3b 0 e0 (ne0,0))).1.c∧(z3b 1 e1 (z3b 0 e0 (ne0,0))).1.c≤4611686018427387904:=by
  rw[←he1, ←he0];rw[←he0] at ok1;exact ok1
 cases a0:z29c ne0.c e0 with
 |false=>
  have p0:z3b 0 e0 (ne0,0)=(ne0,0):=z25a a0;have p0':z3b 0 e0 (ne0,1)=(ne0,1):=z25a a0
  have hy0:rbF 0 e0 ⟨(ne0,1),8,0⟩=⟨(ne0,1),8,0⟩:=by
   unfold rbF;rw[p0',if_neg (by rw[a0];decide)]
  rw[hy0] at hy;rw[p0] at hx ok1
  cases a1:z29c ne0.c e1 with
  |false=>
   have p1:z3b 1 e1 (ne0,0)=(ne0,0):=z25a a1;have p1':z3b 1 e1 (ne0,1)=(ne0,1):=z25a a1
   have hy1:rbF 1 e1 ⟨(ne0,1),8,0⟩=⟨(ne0,1),8,0⟩:=by
    unfold rbF;rw[p1',if_neg (by rw[a1];decide)]
   rw[hy1] at hy;rw[p1] at hx;rw[hx] at hm0 hm1 ⊢;rw[hy];exact⟨rfl,rfl,hn0,.inl rfl,fun _=>⟨rfl,rfl⟩,fun h=>absurd rfl h,hm0,hm1⟩
  |true=>
   obtain⟨q1,q2,q3⟩:=z217 (f:=1) (es:=e1) (a:=(ne0,0)) (b:=(ne0,1)) rfl a1;have q3:(0:Int)<(z3b 1 e1 (ne0,0)).1.c:=q3
   have hy1:rbF 1 e1 ⟨(ne0,1),8,0⟩=⟨z3b 1 e1 (ne0,0),(e1.length:Int),0⟩:=by
    unfold rbF;rw[←q1,if_pos a1]
   rw[hy1] at hy;rw[hx] at hm0 hm1 ⊢;rw[hy];refine⟨rfl,rfl,ok1,.inr q2,fun h=>?_,fun _=>⟨rfl,?_⟩,hm0,hm1⟩
   ·have h : (z3b 1 e1 (ne0, 0)).1.c = 0 := h
    omega
   ·show (e1.length : Int) = if (z3b 1 e1 (ne0, 0)).2 = 0 then _ else _
    rw[q2];rfl
 |true=>
  obtain⟨q1,q2,q3⟩:=z217 (f:=0) (es:=e0) (a:=(ne0,0)) (b:=(ne0,1)) rfl a0;have q3:(0:Int)<(z3b 0 e0 (ne0,0)).1.c:=q3
  have hy0:rbF 0 e0 ⟨(ne0,1),8,0⟩=⟨z3b 0 e0 (ne0,0),(e0.length:Int),0⟩:=by
   unfold rbF;rw[←q1,if_pos a0]
  rw[hy0] at hy
  generalize z3b 0 e0 (ne0,0)=P at *
  cases a1:z29c P.1.c e1 with
  |false=>
   have p1:z3b 1 e1 P=P:=z25a a1
   have hy1:rbF 1 e1 ⟨P,(e0.length:Int),0⟩=⟨P,(e0.length:Int),0⟩:=by
    unfold rbF;rw[p1,if_neg (by rw[a1];decide)]
   rw[hy1] at hy;rw[p1] at hx ok1;rw[hx] at hm0 hm1 ⊢;rw[hy];refine⟨rfl,rfl,ok1,.inl q2,fun h=>?_,fun _=>⟨rfl,?_⟩,hm0,hm1⟩
   ·have h : P.1.c = 0 := h
    omega
   ·show (e0.length : Int) = if P.2 = 0 then _ else _
    rw[q2];rfl
  |true=>
   obtain⟨r1,r2,r3⟩:=z217 (f:=1) (es:=e1) (a:=P) (b:=P) rfl a1
   have hy1:rbF 1 e1 ⟨P,(e0.length:Int),0⟩=⟨z3b 1 e1 P,(e1.length:Int),0⟩:=by
    unfold rbF;rw[if_pos a1]
   rw[hy1] at hy;rw[hx] at hm0 hm1 ⊢;rw[hy];refine⟨rfl,rfl,ok1,.inr r2,fun h=>?_,fun _=>⟨rfl,?_⟩,hm0,hm1⟩
   ·have h : (z3b 1 e1 P).1.c = 0 := h
    omega
   ·show (e1.length : Int) = if (z3b 1 e1 P).2 = 0 then _ else _
    rw[r2];rfl
noncomputable def z71(call:z11)(r20:AV)(r21:AV)(k85:AHeap→R)(self:Int→AHeap→R)(t141:Int)(h_89:AHeap):R:=
 lett (decide (t141<2)) fun (t142:Bool)=>
 ifB t142
 (
  callN (call 26 [r20,.int .i64 t141] h_89) fun r147 h_97=>
  obind (z160 0 r147) fun v148=>
  obind (z31 v148) fun t148=>
  obind (z160 1 r147) fun v149=>
  obind (z2f v149) fun t149=>
  lett (fun (t185:Bool) (h_105:AHeap)=>
   ifB t185
   (
    some (.ret (.bool false),h_105))
   (
    lett (IntKind.i64.wrap (t141+1)) fun (t186:Int)=>
    self t186 h_105)) fun k104=>
  obind (z34 r21) fun t153=>
  obind (z20 0 t153) fun t154=>
  obind (z17b 32 3 t154 t141) fun t155=>
  obind (z20 0 t155) fun t156=>
  obind (z20 1 t156) fun t157=>
  obind (z9 h_97 t157) fun v158=>
  obind (z31 v158) fun t158=>
  lett (!eqS t148 t158) fun (t159:Bool)=>
  ifB t159
  (
   k104 true h_97)
  (
   obind (z34 r21) fun t164=>
   obind (z20 0 t164) fun t165=>
   obind (z17b 32 3 t165 t141) fun t166=>
   obind (z20 0 t166) fun t167=>
   obind (z20 0 t167) fun t168=>
   obind (z9 h_97 t168) fun v169=>
   obind (z2f v169) fun t169=>
   lett (!((t149:Bool) == t169)) fun (t170:Bool)=>
   ifB t170
   (
    k104 true h_97)
   (
    obind (z34 r21) fun t178=>
    obind (z20 0 t178) fun t179=>
    obind (z17b 32 3 t179 t141) fun t180=>
    obind (z20 2 t180) fun t181=>
    obind (z9 h_97 t181) fun v182=>
    obind (z197 v182) fun t183=>
    callN (call 27 [r20,.int .i64 t141] h_97) fun r175 h_130=>
    obind (z17 .i64 r175) fun t175=>
    chk (z6e Try.prog h_130 57 t181 v182&&(true&&(true&&true)))<|
    lett ((t175:Int) != t183) fun (t184:Bool)=>
    k104 t184 h_130)))
 (
  k85 h_89)
noncomputable def z84(call:z11)(r20:AV)(r21:AV)(k85:AHeap→R):Nat→Int→AHeap→R:=z130 (fun _ _=>none) (z71 call r20 r21 k85)
theorem zd2(call:z11)(r20:AV)(r21:AV)(k85:AHeap→R)(m:Nat):z84 call r20 r21 k85 (m+1)=z71 call r20 r21 k85 (z84 call r20 r21 k85 m):=rfl
noncomputable def z72(call:z11)(n:Nat)(t0:AV)(r20:AV)(r21:AV)(t33:Int)(k36:AHeap→R)(self:AV→Int→AV→Int→Int→AHeap→R)(t5:AV)(t6:Int)(t7:AV)(t8:Int)(t34:Int)(h_40:AHeap):R:=
 lett (decide (t34<t33)) fun (t35:Bool)=>
 ifB t35
 (
  obind (z18d 6 t0 t34) fun t36=>
  obind (z2b h_40 6 t36) fun t37=>
  lett (newH h_40 49 [.int .i64 0,.int .i64 0,.int .i64 0,.int .i64 0,.str 0 0,.nsl]) fun h_49=>
  obind (z27 h_49 6 t37 (z1a h_40)) fun h_51=>
  obind (z9 h_51 (AV.ptr (AHeap.next h_40) 0)) fun v39=>
  obind (z17 .i64 v39) fun t39=>
  lett ((t39:Int) == 3) fun (t40:Bool)=>
  lett (fun (h_59:AHeap)=>
   obind (z9 h_59 (AV.ptr (AHeap.next h_40) 0)) fun v57=>
   obind (z17 .i64 v57) fun t57=>
   lett ((t57:Int) == 0) fun (t85:Bool)=>
   lett (fun (t5_68:AV) (t6_69:Int) (t7_70:AV) (t8_71:Int) (h_72:AHeap)=>
    lett (fun (t129:Bool) (h_76:AHeap)=>
     ifB t129
     (
      some (.ret (.bool false),h_76))
     (
      lett (fun (t140:Bool) (h_81:AHeap)=>
       ifB t140
       (
        some (.ret (.bool false),h_81))
       (
        lett (fun (h_86:AHeap)=>
         lett (IntKind.i64.wrap (t34+1)) fun (t187:Int)=>
         self t5_68 t6_69 t7_70 t8_71 t187 h_86) fun k85=>
        z84 call r20 r21 k85 n 0 h_81)) fun k80=>
      outK (z65 Try.prog h_76 .neq 25 true (some t5_68) (some AV.nilp)) fun v131 h_135=>
      obind (z2f v131) fun t131=>
      ifB t131
      (
       obind (z34 t7_70) fun t136=>
       obind (z20 1 t136) fun t137=>
       obind (z2b h_135 2 t137) fun t138=>
       callN (call 16 [t5_68] h_135) fun r134 h_141=>
       obind (z132 r134) fun t134=>
       chk (z6e Try.prog h_141 39 t137 (.agg t138)&&true)<|
       obind (zc7 Try.prog 31 (.agg t134) (.agg t138)) fun t139=>
       lett (!t139) fun (t139_146:Bool)=>
       k80 t139_146 h_141)
      (
       k80 false h_135))) fun k75=>
    lett ((t6_69:Int) != t8_71) fun (t113:Bool)=>
    ifB t113
    (
     k75 true h_72)
    (
     outK (z65 Try.prog h_72 .eql 25 true (some t5_68) (some AV.nilp)) fun v116 h_149=>
     obind (z2f v116) fun t116=>
     outK (z65 Try.prog h_149 .eql 45 true (some t7_70) (some AV.nilp)) fun v118 h_152=>
     obind (z2f v118) fun t118=>
     lett (!((t116:Bool) == t118)) fun (t119:Bool)=>
     ifB t119
     (
      k75 true h_152)
     (
      obind (z34 r21) fun t125=>
      obind (z20 97 t125) fun t126=>
      obind (z9 h_152 t126) fun v127=>
      obind (z17 .i64 v127) fun t127=>
      callN (call 13 [r20] h_152) fun r123 h_160=>
      obind (z17 .i64 r123) fun t123=>
      chk (z6e Try.prog h_160 3 t126 (.int .i64 t127)&&true)<|
      lett ((t123:Int) != t127) fun (t128:Bool)=>
      k75 t128 h_160))) fun k67=>
   ifB t85
   (
    lett (fun (t98:Bool) (h_167:AHeap)=>
     ifB t98
     (
      some (.ret (.bool false),h_167))
     (
      k67 t5 t6 t7 t8 h_167)) fun k166=>
    outK (z65 Try.prog h_59 .neq 25 true (some t5) (some AV.nilp)) fun v87 h_169=>
    obind (z2f v87) fun t87=>
    ifB t87
    (
     obind (z2b h_169 2 (AV.ptr (AHeap.next h_40) 2)) fun t91=>
     obind (z2b h_169 2 (AV.ptr (AHeap.next h_40) 2)) fun t95=>
     callN (call 11 [t5,.agg t91] h_169) fun r92 h_174=>
     obind (z17 .i64 r92) fun t92=>
     chk (z6e Try.prog h_174 31 (AV.ptr (AHeap.next h_40) 2) (.agg t95)&&(true&&true))<|
     callN (call 24 [t7,.agg t95] h_174) fun r96 h_178=>
     obind (z17 .i64 r96) fun t96=>
     lett ((t92:Int) != t96) fun (t97:Bool)=>
     k166 t97 h_178)
    (
     k166 false h_169))
   (
    lett ((t57:Int) == 1) fun (t100:Bool)=>
    lett (fun (t5_185:AV) (t6_186:Int) (t7_187:AV) (t8_188:Int) (h_189:AHeap)=>
     k67 t5_185 t6_186 t7_187 t8_188 h_189) fun k184=>
    ifB t100
    (
     obind (z9 h_59 (AV.ptr (AHeap.next h_40) 1)) fun v103=>
     obind (z17 .i64 v103) fun t103=>
     lett (if (-1)>t103 then (-1) else t103) fun (t104:Int)=>
     obind (z34 r21) fun t105=>
     obind (z20 96 t105) fun t106=>
     obind (z27 h_59 1 [.int .i64 t104] t106) fun h_196=>
     obind (z9 h_196 (AV.ptr (AHeap.next h_40) 1)) fun v109=>
     obind (z17 .i64 v109) fun t109=>
     callN (call 14 [r20,.int .i64 t109] h_196) fun r110 h_200=>
     obind (z17 .i64 r110) fun _=>
     k184 t5 t6 t7 t8 h_200)
    (
     obind (z9 h_59 (AV.ptr (AHeap.next h_40) 5)) fun v59=>
     obind (z9 h_59 (AV.ptr (AHeap.next h_40) 0)) fun v61=>
     obind (z17 .i64 v61) fun t61=>
     lett ((t61:Int) == 3) fun (t62:Bool)=>
     lett (fun (t12:AV) (h_211:AHeap)=>
      obind (z9 h_211 (AV.ptr (AHeap.next h_40) 1)) fun v67=>
      obind (z17 .i64 v67) fun t67=>
      callN (call 25 [r21,t12,.int .i64 t67] h_211) fun _ h_215=>
      obind (z9 h_215 (AV.ptr (AHeap.next h_40) 1)) fun v72=>
      obind (z17 .i64 v72) fun t72=>
      callN (call 15 [r20,t12,.int .i64 t72] h_215) fun r73 h_220=>
      obind (z17 .i64 r73) fun _=>
      callN (call 10 [r20] h_220) fun r76 h_224=>
      obind (z160 0 r76) fun v77=>
      obind (z160 1 r76) fun v78=>
      obind (z17 .i64 v78) fun t78=>
      callN (call 21 [r21] h_224) fun r81 h_229=>
      obind (z160 0 r81) fun v82=>
      obind (z160 1 r81) fun v83=>
      obind (z17 .i64 v83) fun t83=>
      k184 v77 t78 v82 t83 h_229) fun k210=>
     ifB t62
     (
      outK (z178 Try.prog h_59 32 2 [(0,.int .i64 99),(1,.int .i64 99)]) fun v63 h_234=>
      k210 v63 h_234)
     (
      k210 v59 h_59)))) fun k58=>
  ifB t40
  (
   obind (z9 h_51 (AV.ptr (AHeap.next h_40) 1)) fun v42=>
   obind (z17 .i64 v42) fun t42=>
   lett (andI .i64 t42 1) fun (t43:Int)=>
   obind (z9 h_51 (AV.ptr (AHeap.next h_40) 4)) fun v47=>
   obind (z31 v47) fun t47=>
   obind (z9 h_51 (AV.ptr (AHeap.next h_40) 4)) fun v52=>
   obind (z31 v52) fun t52=>
   callN (call 22 [r20,.int .i64 t43,ze t47] h_51) fun r48 h_245=>
   obind (z17 .i64 r48) fun t48=>
   chk (z6e Try.prog h_245 9 (AV.ptr (AHeap.next h_40) 4) (ze t52)&&(true&&true))<|
   callN (call 23 [r21,.int .i64 t43,.agg ([.int .i64 1,ze t52,.int .i64 0]:List AV)] h_245) fun r54 h_249=>
   obind (z17 .i64 r54) fun t54=>
   lett ((t48:Int) != t54) fun (t55:Bool)=>
   ifB t55
   (
    some (.ret (.bool false),h_249))
   (
    k58 h_249))
  (
   k58 h_51))
 (
  k36 h_40)
noncomputable def z85(call:z11)(n:Nat)(t0:AV)(r20:AV)(r21:AV)(t33:Int)(k36:AHeap→R):Nat→AV→Int→AV→Int→Int→AHeap→R:=z130 (fun _ _ _ _ _ _=>none) (z72 call n t0 r20 r21 t33 k36)
theorem zd3(call:z11)(n:Nat)(t0:AV)(r20:AV)(r21:AV)(t33:Int)(k36:AHeap→R)(m:Nat):z85 call n t0 r20 r21 t33 k36 (m+1)=z72 call n t0 r20 r21 t33 k36 (z85 call n t0 r20 r21 t33 k36 m):=rfl
noncomputable def z106(call:z11)(n:Nat)(t0:AV)(h:AHeap):R:=callN (call 8 [] h) fun r16 h_4=>obind (z2f r16) fun t16=>lett (!t16) fun (t17:Bool)=>ifB t17 (some (.ret (.bool false),h_4)) (callN (call 19 [t0] h_4) fun r19 h_11=>obind (z2f r19) fun t19=>ifB t19 (some (.ret (.bool true),h_11)) (callN (call 9 [] h_11) fun r20 h_16=>callN (call 20 [] h_16) fun r21 h_18=>callN (call 10 [r20] h_18) fun r24 h_21=>obind (z160 0 r24) fun v25=>obind (z160 1 r24) fun v26=>obind (z17 .i64 v26) fun t26=>callN (call 21 [r21] h_21) fun r29 h_27=>obind (z160 0 r29) fun v30=>obind (z160 1 r29) fun v31=>obind (z17 .i64 v31) fun t31=>obind (z197 t0) fun t33=>lett (fun (h_37:AHeap)=>some (.ret (.bool true),h_37)) fun k36=>z85 call n t0 r20 r21 t33 k36 n v25 t26 v30 t31 0 h_27))
set_option maxHeartbeats 4000000 in
set_option maxRecDepth 20000 in
theorem z225{call:z11}(hc:SaysAll Try.prog call){n:Nat}{t0:AV}{h:AHeap}{rR:ARes}{hR:AHeap}(hF:z106 call n t0 h=some (rR,hR)):Says Try.prog 5 [t0] h rR hR:=by
 unfold z106 at hF;refine sO Try.func5 fun w0 m0=>?_;refine wW [(0,t0)] ?_;refine oG fun n1=>W.r ?_;refine oA 2 (.bool false) ?_;refine oV [(0,t0)] (n1 ?_);refine oH fun n2 q2=>?_;refine oG fun n3=>W.r ?_;refine oCb hc 16 hF fun t16 h_4 hF=>?_;refine oB 17 hF fun t17 hF=>?_;refine oV [(0,t0),(17,.bool t17)] (n3 ?_)
 cases t17 with
 |true=>
  refine oT hF fun hF=>?_;refine oG fun n8=>W.r ?_;refine oA 2 (.bool false) ?_;refine oV [(2,.bool false)] (n8 (oY (q2 ?_)));exact lZ hF [.tmp 2] [.bool false] (rT zc)
 |false=>
  refine oU hF fun hF=>?_;refine oZ (n2 ?_);refine oH fun n9 q9=>?_;refine oG fun n10=>W.r ?_;refine oA 18 t0 ?_;refine oCb hc 19 hF fun t19 h_11 hF=>?_;refine oV [(0,t0),(19,.bool t19)] (n10 ?_)
  cases t19 with
  |true=>
   refine oT hF fun hF=>?_;refine oG fun n14=>W.r ?_;refine oA 2 (.bool true) ?_;refine oV [(2,.bool true)] (n14 (oY (q9 ?_)));exact lZ hF [.tmp 2] [.bool true] (rT zc)
  |false=>
   refine oU hF fun hF=>?_;refine oZ (n9 ?_);refine oG fun n15=>W.r ?_;refine oC hc (some 20) hF fun r20 h_16 hF=>?_;refine oC hc (some 21) hF fun r21 h_18 hF=>?_;refine oA 3 r20 ?_;refine oA 4 r21 ?_;refine oV [(0,t0),(3,r20),(4,r21)] (n15 ?_);refine oG fun n20=>W.r ?_;refine oA 23 r20 ?_;refine oC hc (some 24) hF fun r24 h_21 hF=>?_;refine oA 22 r24 ?_;refine oE 25 hF fun v25 hF=>?_;refine oEi 26 hF fun t26 hF=>?_;refine oA 5 v25 ?_;refine oA 6 (.int .i64 t26) ?_;refine oV [(0,t0),(3,r20),(4,r21),(5,v25),(6,.int .i64 t26)] (n20 ?_);refine oG fun n26=>W.r ?_;refine oA 28 r21 ?_;refine oC hc (some 29) hF fun r29 h_27 hF=>?_;refine oA 27 r29 ?_;refine oE 30 hF fun v30 hF=>?_;refine oEi 31 hF fun t31 hF=>?_;refine oA 7 v30 ?_;refine oA 8 (.int .i64 t31) ?_;refine oV [(0,t0),(3,r20),(4,r21),(5,v25),(6,.int .i64 t26),(7,v30),(8,.int .i64 t31)] (n26 ?_);refine W.s (fun K32 n32 e32 q32 p32=>?_);refine oG fun n33=>W.r ?_;refine oA 32 t0 ?_;refine oM 33 41 49 hF fun t33 hF=>?_;refine oA 34 (.int .i64 0) ?_;refine oV [(3,r20),(4,r21),(5,v25),(6,.int .i64 t26),(7,v30),(8,.int .i64 t31),(32,t0),(33,.int .i64 t33),(34,.int .i64 0)] (n33 ?_);obtain⟨k36,e36,hF⟩:=z7 hF
   have J36:∀(h_37:AHeap),k36 h_37=some (rR,hR)→Go w0 m0 (Func.ntmps Try.f5) (K32 .normal) [] [] h_37:=by
    intro h_37 hF;rw[e36] at hF;refine n32 ?_;refine oG fun n38=>W.r ?_;refine oA 2 (.bool true) ?_;refine oV [(2,.bool true)] (n38 (oY ?_));exact lZ hF [.tmp 2] [.bool true] (rT zc)
   refine W.blockK (by kernel_rfl) (fun K35 n35 s35 o35 q35 p35=>?_);refine W.loopK (by kernel_rfl) (fun I39 K39 b39 n39 e39 q39 p39=>?_)
   have L39:∀(m:Nat) (t5:AV) (t6:Int) (t7:AV) (t8:Int) (t34:Int) (h_40:AHeap),z85 call n t0 r20 r21 t33 k36 m t5 t6 t7 t8 t34 h_40=some (rR,hR)→Go w0 m0 (Func.ntmps Try.f5) I39 [(3,r20),(4,r21),(5,t5),(6,.int .i64 t6),(7,t7),(8,.int .i64 t8),(32,t0),(33,.int .i64 t33),(34,.int .i64 t34)] [] h_40:=by
    intro m
    induction m with
    |zero=>intro t5 t6 t7 t8 t34 h_40 hF;cases hF
    |succ m ih39=>
     intro t5 t6 t7 t8 t34 h_40 hF;rw[zd3] at hF;unfold z72 at hF;refine b39 ?_;refine oG fun n41=>W.r ?_;refine oB 35 hF fun t35 hF=>?_;refine oV [(3,r20),(4,r21),(5,t5),(6,.int .i64 t6),(7,t7),(8,.int .i64 t8),(32,t0),(33,.int .i64 t33),(34,.int .i64 t34),(35,.bool t35)] (n41 ?_);refine W.s (fun K43 n43 e43 q43 p43=>?_)
     cases t35 with
     |true=>
      refine oT hF fun hF=>?_;refine oZ (n43 ?_);refine oH fun n44 q44=>?_;refine W.blockK (by kernel_rfl) (fun K45 n45 s45 o45 q45 p45=>?_);refine oG fun n46=>W.r ?_;refine oP 36 41 49 .i64 hF fun t36 hF=>?_;refine oR 37 49 hF fun t37 hF=>?_;refine oN 10 hF fun h_49 hF=>?_;refine oW 49 (.agg t37) hF fun h_51 hF=>?_;refine oV [(3,r20),(4,r21),(5,t5),(6,.int .i64 t6),(7,t7),(8,.int .i64 t8),(10,(z1a h_40)),(32,t0),(33,.int .i64 t33),(34,.int .i64 t34)] (n46 ?_);refine W.s (fun K53 n53 e53 q53 p53=>?_);refine oG fun n54=>W.r ?_;refine oA 38 (AV.ptr (AHeap.next h_40) 0) ?_;refine oLi 39 3 hF fun t39 hF=>?_;refine oB 40 hF fun t40 hF=>?_;refine oV [(3,r20),(4,r21),(5,t5),(6,.int .i64 t6),(7,t7),(8,.int .i64 t8),(10,(z1a h_40)),(32,t0),(33,.int .i64 t33),(34,.int .i64 t34),(40,.bool t40)] (n54 ?_);obtain⟨k58,e58,hF⟩:=z7 hF
      have J58:∀(h_59:AHeap),k58 h_59=some (rR,hR)→Go w0 m0 (Func.ntmps Try.f5) (K53 .normal) [(3,r20),(4,r21),(5,t5),(6,.int .i64 t6),(7,t7),(8,.int .i64 t8),(10,(z1a h_40)),(32,t0),(33,.int .i64 t33),(34,.int .i64 t34)] [] h_59:=by
       intro h_59 hF;rw[e58] at hF;refine n53 ?_;refine oH fun n60 q60=>?_;refine oG fun n61=>W.r ?_;refine oA 56 (AV.ptr (AHeap.next h_40) 0) ?_;refine oLi 57 3 hF fun t57 hF=>?_;refine oV [(3,r20),(4,r21),(5,t5),(6,.int .i64 t6),(7,t7),(8,.int .i64 t8),(10,(z1a h_40)),(32,t0),(33,.int .i64 t33),(34,.int .i64 t34),(57,.int .i64 t57)] (n61 ?_);refine W.blockK (by kernel_rfl) (fun K64 n64 s64 o64 q64 p64=>?_);refine oG fun n65=>W.r ?_;refine oB 85 hF fun t85 hF=>?_;refine oA 84 (.bool t85) ?_;refine oV [(3,r20),(4,r21),(5,t5),(6,.int .i64 t6),(7,t7),(8,.int .i64 t8),(10,(z1a h_40)),(32,t0),(33,.int .i64 t33),(34,.int .i64 t34),(57,.int .i64 t57),(84,.bool t85)] (n65 ?_);obtain⟨k67,e67,hF⟩:=z7 hF
       have J67:∀(t5_68:AV) (t6_69:Int) (t7_70:AV) (t8_71:Int) (h_72:AHeap),k67 t5_68 t6_69 t7_70 t8_71 h_72=some (rR,hR)→Go w0 m0 (Func.ntmps Try.f5) (K64 .normal) [(3,r20),(4,r21),(5,t5_68),(6,.int .i64 t6_69),(7,t7_70),(8,.int .i64 t8_71),(32,t0),(33,.int .i64 t33),(34,.int .i64 t34)] [] h_72:=by
        intro t5_68 t6_69 t7_70 t8_71 h_72 hF;rw[e67] at hF;refine n64 (n60 ?_);refine oH fun n73 q73=>?_;refine W.s (fun K74 n74 e74 q74 p74=>?_);obtain⟨k75,e75,hF⟩:=z7 hF
        have J75:∀(t129:Bool) (h_76:AHeap),k75 t129 h_76=some (rR,hR)→Go w0 m0 (Func.ntmps Try.f5) (K74 .normal) [(3,r20),(4,r21),(5,t5_68),(6,.int .i64 t6_69),(7,t7_70),(8,.int .i64 t8_71),(32,t0),(33,.int .i64 t33),(34,.int .i64 t34),(129,.bool t129)] [] h_76:=by
         intro t129 h_76 hF;rw[e75] at hF;refine n74 ?_
         cases t129 with
         |true=>
          refine oT hF fun hF=>?_;refine oG fun n77=>W.r ?_;refine oA 2 (.bool false) ?_;refine oV [(2,.bool false)] (n77 (oY (q73 (q45 (q44 (q39 (q35 (q32 ?_))))))));exact lZ hF [.tmp 2] [.bool false] (rT zc)
         |false=>
          refine oU hF fun hF=>?_;refine oZ (n73 ?_);refine oH fun n78 q78=>?_;refine W.s (fun K79 n79 e79 q79 p79=>?_);obtain⟨k80,e80,hF⟩:=z7 hF
          have J80:∀(t140:Bool) (h_81:AHeap),k80 t140 h_81=some (rR,hR)→Go w0 m0 (Func.ntmps Try.f5) (K79 .normal) [(3,r20),(4,r21),(5,t5_68),(6,.int .i64 t6_69),(7,t7_70),(8,.int .i64 t8_71),(32,t0),(33,.int .i64 t33),(34,.int .i64 t34),(140,.bool t140)] [] h_81:=by
           intro t140 h_81 hF;rw[e80] at hF;refine n79 ?_
           cases t140 with
           |true=>
            refine oT hF fun hF=>?_;refine oG fun n82=>W.r ?_;refine oA 2 (.bool false) ?_;refine oV [(2,.bool false)] (n82 (oY (q78 (q45 (q44 (q39 (q35 (q32 ?_))))))));exact lZ hF [.tmp 2] [.bool false] (rT zc)
           |false=>
            refine oU hF fun hF=>?_;refine oZ (n78 ?_);refine oG fun n83=>W.r ?_;refine oA 141 (.int .i64 0) ?_;refine oV [(3,r20),(4,r21),(5,t5_68),(6,.int .i64 t6_69),(7,t7_70),(8,.int .i64 t8_71),(32,t0),(33,.int .i64 t33),(34,.int .i64 t34),(141,.int .i64 0)] (n83 ?_);obtain⟨k85,e85,hF⟩:=z7 hF
            have J85:∀(h_86:AHeap),k85 h_86=some (rR,hR)→Go w0 m0 (Func.ntmps Try.f5) (K45 .normal) [(3,r20),(4,r21),(5,t5_68),(6,.int .i64 t6_69),(7,t7_70),(8,.int .i64 t8_71),(32,t0),(33,.int .i64 t33),(34,.int .i64 t34)] [] h_86:=by
             intro h_86 hF;rw[e85] at hF;refine n45 (n44 (W.r ?_));refine oI 187 .i64 hF fun t187 hF=>?_;refine oA 34 (.int .i64 t187) ?_;refine oV [(3,r20),(4,r21),(5,t5_68),(6,.int .i64 t6_69),(7,t7_70),(8,.int .i64 t8_71),(32,t0),(33,.int .i64 t33),(34,.int .i64 t187)] (n39 ?_);exact gW _ (ih39 _ _ _ _ _ _ hF)
            refine W.blockK (by kernel_rfl) (fun K84 n84 s84 o84 q84 p84=>?_);refine W.loopK (by kernel_rfl) (fun I88 K88 b88 n88 e88 q88 p88=>?_)
            have L88:∀(m:Nat) (t141:Int) (h_89:AHeap),z84 call r20 r21 k85 m t141 h_89=some (rR,hR)→Go w0 m0 (Func.ntmps Try.f5) I88 [(3,r20),(4,r21),(5,t5_68),(6,.int .i64 t6_69),(7,t7_70),(8,.int .i64 t8_71),(32,t0),(33,.int .i64 t33),(34,.int .i64 t34),(141,.int .i64 t141)] [] h_89:=by
             intro m
             induction m with
             |zero=>intro t141 h_89 hF;cases hF
             |succ m ih88=>
              intro t141 h_89 hF;rw[zd2] at hF;unfold z71 at hF;refine b88 ?_;refine oG fun n90=>W.r ?_;refine oB 142 hF fun t142 hF=>?_;refine oV [(3,r20),(4,r21),(5,t5_68),(6,.int .i64 t6_69),(7,t7_70),(8,.int .i64 t8_71),(32,t0),(33,.int .i64 t33),(34,.int .i64 t34),(141,.int .i64 t141),(142,.bool t142)] (n90 ?_);refine W.s (fun K92 n92 e92 q92 p92=>?_)
              cases t142 with
              |true=>
               refine oT hF fun hF=>?_;refine oZ (n92 ?_);refine oH fun n93 q93=>?_;refine W.blockK (by kernel_rfl) (fun K94 n94 s94 o94 q94 p94=>?_);refine oG fun n95=>W.r ?_;refine oA 143 (.int .i64 t141) ?_;refine oA 13 (.int .i64 t141) ?_;refine oV [(3,r20),(4,r21),(5,t5_68),(6,.int .i64 t6_69),(7,t7_70),(8,.int .i64 t8_71),(13,.int .i64 t141),(32,t0),(33,.int .i64 t33),(34,.int .i64 t34),(141,.int .i64 t141)] (n95 ?_);refine oG fun n96=>W.r ?_;refine oA 145 r20 ?_;refine oA 146 (.int .i64 t141) ?_;refine oC hc (some 147) hF fun r147 h_97 hF=>?_;refine oA 144 r147 ?_;refine oEs 148 hF fun t148 hF=>?_;refine oEb 149 hF fun t149 hF=>?_;refine oA 14 (ze t148) ?_;refine oA 15 (.bool t149) ?_;refine oV [(3,r20),(4,r21),(5,t5_68),(6,.int .i64 t6_69),(7,t7_70),(8,.int .i64 t8_71),(13,.int .i64 t141),(14,ze t148),(15,.bool t149),(32,t0),(33,.int .i64 t33),(34,.int .i64 t34),(141,.int .i64 t141)] (n96 ?_);refine W.s (fun K103 n103 e103 q103 p103=>?_);obtain⟨k104,e104,hF⟩:=z7 hF
               have J104:∀(t185:Bool) (h_105:AHeap),k104 t185 h_105=some (rR,hR)→Go w0 m0 (Func.ntmps Try.f5) (K103 .normal) [(3,r20),(4,r21),(5,t5_68),(6,.int .i64 t6_69),(7,t7_70),(8,.int .i64 t8_71),(32,t0),(33,.int .i64 t33),(34,.int .i64 t34),(141,.int .i64 t141),(185,.bool t185)] [] h_105:=by
                intro t185 h_105 hF;rw[e104] at hF;refine n103 ?_
                cases t185 with
                |true=>
                 refine oT hF fun hF=>?_;refine oG fun n106=>W.r ?_;refine oA 2 (.bool false) ?_;refine oV [(2,.bool false)] (n106 (oY (q94 (q93 (q88 (q84 (q45 (q44 (q39 (q35 (q32 ?_)))))))))));exact lZ hF [.tmp 2] [.bool false] (rT zc)
                |false=>
                 refine oU hF fun hF=>?_;refine oZ (n94 (n93 (W.r ?_)));refine oI 186 .i64 hF fun t186 hF=>?_;refine oA 141 (.int .i64 t186) ?_;refine oV [(3,r20),(4,r21),(5,t5_68),(6,.int .i64 t6_69),(7,t7_70),(8,.int .i64 t8_71),(32,t0),(33,.int .i64 t33),(34,.int .i64 t34),(141,.int .i64 t186)] (n88 ?_);exact gW _ (ih88 _ _ hF)
               refine y12 (by kernel_rfl) (hc.ok w0) (plan:=[0,1,2,3,4,5,6,7,8,9,10,11,12,13,14,15,16,17,18,19,20,21,22,23,24,26,27,28,29,30,31,32,33,25,34,35]) (by kernel_rfl) (by kernel_rfl) (by kernel_rfl) ?_;refine WD.a 0 (some 150) (ze t148) h_97 ?_;refine WD.a 0 (some 151) r21 h_97 ?_;refine WD.a 0 (some 152) (.int .i64 t141) h_97 ?_;obtain⟨t153,e108,hF⟩:=z4 hF;refine WD.b 0 (some 153) t153 h_97 (z1f (h:=h_97) e108) ?_;obtain⟨t154,e109,hF⟩:=z4 hF;refine WD.b 0 (some 154) t154 h_97 (z10 (P:=Try.prog) (h:=h_97) (s:=62) (f:=0) (by kernel_rfl) e109) ?_;obtain⟨t155,e110,hF⟩:=z4 hF;refine WD.b 0 (some 155) t155 h_97 (z99 (P:=Try.prog) (h:=h_97) (t:=60) (e':=59) (k:=.i64) (by kernel_rfl) (by kernel_rfl) (by kernel_rfl) e110) ?_;obtain⟨t156,e111,hF⟩:=z4 hF;refine WD.b 0 (some 156) t156 h_97 (z10 (P:=Try.prog) (h:=h_97) (s:=59) (f:=0) (by kernel_rfl) e111) ?_;obtain⟨t157,e112,hF⟩:=z4 hF;refine WD.b 0 (some 157) t157 h_97 (z10 (P:=Try.prog) (h:=h_97) (s:=56) (f:=1) (by kernel_rfl) e112) ?_
               replace hF:=z4 hF;obtain⟨v158,e113,hF⟩:=hF
               replace hF:=z4 hF;obtain⟨t158,c114,hF⟩:=hF
               have c114:=z22 c114;subst c114;refine WD.b 1 (some 158) (ze t158) h_97 (z12 (P:=Try.prog) (h:=h_97) (t:=9) (by kernel_rfl) e113) ?_;obtain⟨t159,e115,hF⟩:=z7 hF;refine WD.val (d:=(some 159)) (v:=.bool t159) (h':=h_97) (by kernel_rfl) (by kernel_rfl) (z2a AV.bool e115 (by kernel_rfl)) (k:=0) (by kernel_rfl) (fun e=>absurd e (by decide)) (by decide) ?_;refine WD.a 0 (some 160) (.bool t159) h_97 ?_
               cases t159 with
               |true=>
                replace hF:=z53 hF
                refine oD 0 (some 161) ?_;refine oD 0 (some 162) ?_;refine oD 0 (some 163) ?_;refine oD 0 (some 164) ?_;refine oD 0 (some 165) ?_;refine oD 0 (some 166) ?_;refine oD 0 (some 167) ?_;refine oD 0 (some 168) ?_;refine oD 1 (some 169) ?_;refine oD 0 (some 170) ?_;refine WD.a 0 (some 171) (.bool true) h_97 ?_;refine WD.a 0 (some 172) (.bool true) h_97 ?_;refine oD 0 (some 173) ?_;refine oD 0 (some 174) ?_;refine oD 0 (some 176) ?_;refine oD 0 (some 177) ?_;refine oD 0 (some 178) ?_;refine oD 0 (some 179) ?_;refine oD 0 (some 180) ?_;refine oD 0 (some 181) ?_;refine oD 1 (some 182) ?_;refine oD 0 (some 183) ?_;refine WD.not (d:=(some 175)) (by kernel_rfl) (by kernel_rfl) (k:=2) (by kernel_rfl) (fun _=>(by kernel_rfl)) (by decide) ?_;refine oD 0 (some 184) ?_;refine WD.a 0 (some 185) (.bool true) h_97 ?_;refine WD.nil ?_;exact gW _ (J104 _ _ hF)
               |false=>
                replace hF:=z54 hF
                refine WD.a 0 (some 161) (.bool t149) h_97 ?_;refine WD.a 0 (some 162) r21 h_97 ?_;refine WD.a 0 (some 163) (.int .i64 t141) h_97 ?_;obtain⟨t164,e116,hF⟩:=z4 hF;refine WD.b 0 (some 164) t164 h_97 (z1f (h:=h_97) e116) ?_;obtain⟨t165,e117,hF⟩:=z4 hF;refine WD.b 0 (some 165) t165 h_97 (z10 (P:=Try.prog) (h:=h_97) (s:=62) (f:=0) (by kernel_rfl) e117) ?_;obtain⟨t166,e118,hF⟩:=z4 hF;refine WD.b 0 (some 166) t166 h_97 (z99 (P:=Try.prog) (h:=h_97) (t:=60) (e':=59) (k:=.i64) (by kernel_rfl) (by kernel_rfl) (by kernel_rfl) e118) ?_;obtain⟨t167,e119,hF⟩:=z4 hF;refine WD.b 0 (some 167) t167 h_97 (z10 (P:=Try.prog) (h:=h_97) (s:=59) (f:=0) (by kernel_rfl) e119) ?_;obtain⟨t168,e120,hF⟩:=z4 hF;refine WD.b 0 (some 168) t168 h_97 (z10 (P:=Try.prog) (h:=h_97) (s:=56) (f:=0) (by kernel_rfl) e120) ?_
                replace hF:=z4 hF;obtain⟨v169,e121,hF⟩:=hF
                replace hF:=z4 hF;obtain⟨t169,c122,hF⟩:=hF
                have c122:=z1e c122;subst c122;refine WD.b 1 (some 169) (.bool t169) h_97 (z12 (P:=Try.prog) (h:=h_97) (t:=4) (by kernel_rfl) e121) ?_;obtain⟨t170,e123,hF⟩:=z7 hF;refine WD.val (d:=(some 170)) (v:=.bool t170) (h':=h_97) (by kernel_rfl) (by kernel_rfl) (z2a AV.bool e123 (by kernel_rfl)) (k:=0) (by kernel_rfl) (fun e=>absurd e (by decide)) (by decide) ?_;refine WD.a 0 (some 171) (.bool t170) h_97 ?_;refine WD.a 0 (some 172) (.bool t170) h_97 ?_
                cases t170 with
                |true=>
                 replace hF:=z53 hF
                 refine oD 0 (some 173) ?_;refine oD 0 (some 174) ?_;refine oD 0 (some 176) ?_;refine oD 0 (some 177) ?_;refine oD 0 (some 178) ?_;refine oD 0 (some 179) ?_;refine oD 0 (some 180) ?_;refine oD 0 (some 181) ?_;refine oD 1 (some 182) ?_;refine oD 0 (some 183) ?_;refine WD.not (d:=(some 175)) (by kernel_rfl) (by kernel_rfl) (k:=2) (by kernel_rfl) (fun _=>(by kernel_rfl)) (by decide) ?_;refine oD 0 (some 184) ?_;refine WD.a 0 (some 185) (.bool true) h_97 ?_;refine WD.nil ?_;exact gW _ (J104 _ _ hF)
                |false=>
                 replace hF:=z54 hF
                 refine WD.a 0 (some 173) r20 h_97 ?_;refine WD.a 0 (some 174) (.int .i64 t141) h_97 ?_;refine WD.a 0 (some 176) r21 h_97 ?_;refine WD.a 0 (some 177) (.int .i64 t141) h_97 ?_;obtain⟨t178,e124,hF⟩:=z4 hF;refine WD.b 0 (some 178) t178 h_97 (z1f (h:=h_97) e124) ?_;obtain⟨t179,e125,hF⟩:=z4 hF;refine WD.b 0 (some 179) t179 h_97 (z10 (P:=Try.prog) (h:=h_97) (s:=62) (f:=0) (by kernel_rfl) e125) ?_;obtain⟨t180,e126,hF⟩:=z4 hF;refine WD.b 0 (some 180) t180 h_97 (z99 (P:=Try.prog) (h:=h_97) (t:=60) (e':=59) (k:=.i64) (by kernel_rfl) (by kernel_rfl) (by kernel_rfl) e126) ?_;obtain⟨t181,e127,hF⟩:=z4 hF;refine WD.b 0 (some 181) t181 h_97 (z10 (P:=Try.prog) (h:=h_97) (s:=59) (f:=1) (by kernel_rfl) e127) ?_;obtain⟨v182,e128,hF⟩:=z4 hF;refine WD.b 1 (some 182) v182 h_97 (z12 (P:=Try.prog) (h:=h_97) (t:=57) (by kernel_rfl) e128) ?_;obtain⟨t183,e129,hF⟩:=z4 hF;refine WD.b 0 (some 183) (.int .i64 t183) h_97 (z3ed (P:=Try.prog) (h:=h_97) (t:=57) (e':=53) (by kernel_rfl) e129) ?_
                 replace hF:=z18 hF;obtain⟨r175,h_130,e131,hF⟩:=hF
                 replace hF:=z4 hF;obtain⟨t175,c132,hF⟩:=hF
                 have c132:=z15 c132;subst c132;obtain⟨k133,hF⟩:=z8a hF;refine WD.call (d:=(some 175)) (by kernel_rfl) (by kernel_rfl) (by kernel_rfl) e131 (k:=2) (by kernel_rfl) (fun _=>(Eq.trans (by kernel_rfl) k133)) (by decide) ?_;obtain⟨t184,e134,hF⟩:=z7 hF;refine WD.val (d:=(some 184)) (v:=.bool t184) (h':=h_130) (by kernel_rfl) (by kernel_rfl) (z2a AV.bool e134 (by kernel_rfl)) (k:=0) (by kernel_rfl) (fun e=>absurd e (by decide)) (by decide) ?_;refine WD.a 0 (some 185) (.bool t184) h_130 ?_;refine WD.nil ?_;exact gW _ (J104 _ _ hF)
              |false=>
               refine oU hF fun hF=>?_;refine W.exit (by kernel_rfl) ?_;refine e92 (e88 ?_);refine s84 (by kernel_rfl) ?_;exact gW _ (J85 _ hF)
            exact gW _ (L88 _ _ _ hF)
          refine y12 (by kernel_rfl) (hc.ok w0) (plan:=[0,1,2,3,5,6,7,8,4,9,10]) (by kernel_rfl) (by kernel_rfl) (by kernel_rfl) ?_;refine WD.a 0 (some 130) t5_68 h_76 ?_
          replace hF:=z26 hF;obtain⟨v131,h_135,e136,hF⟩:=hF
          replace hF:=z4 hF;obtain⟨t131,c137,hF⟩:=hF
          have c137:=z1e c137;subst c137;refine WD.b 0 (some 131) (.bool t131) h_135 e136 ?_;refine WD.a 0 (some 132) (.bool t131) h_135 ?_
          cases t131 with
          |true=>
           replace hF:=z53 hF
           refine WD.a 0 (some 133) t5_68 h_135 ?_;refine WD.a 0 (some 135) t7_70 h_135 ?_;obtain⟨t136,e138,hF⟩:=z4 hF;refine WD.b 0 (some 136) t136 h_135 (z1f (h:=h_135) e138) ?_;obtain⟨t137,e139,hF⟩:=z4 hF;refine WD.b 0 (some 137) t137 h_135 (z10 (P:=Try.prog) (h:=h_135) (s:=66) (f:=1) (by kernel_rfl) e139) ?_;obtain⟨t138,e140,hF⟩:=z4 hF;refine WD.b 1 (some 138) (.agg t138) h_135 (z36 (P:=Try.prog) (h:=h_135) (t:=39) (by kernel_rfl) (by kernel_rfl) e140) ?_
           replace hF:=z18 hF;obtain⟨r134,h_141,e142,hF⟩:=hF
           replace hF:=z4 hF;obtain⟨t134,c143,hF⟩:=hF
           have c143:=zb9 c143;subst c143;obtain⟨k144,hF⟩:=z8a hF;refine WD.call (d:=(some 134)) (by kernel_rfl) (by kernel_rfl) (by kernel_rfl) e142 (k:=2) (by kernel_rfl) (fun _=>(Eq.trans (by kernel_rfl) k144)) (by decide) ?_;obtain⟨t139,e145,hF⟩:=z4 hF;obtain⟨t139_146,e147,hF⟩:=z7 hF;refine WD.val (d:=(some 139)) (v:=.bool t139_146) (h':=h_141) (by kernel_rfl) (by kernel_rfl) (z2a AV.bool e147 (Eq.trans (by kernel_rfl) (z3a2 (P:=Try.prog) (h:=h_141) (t:=31) (lit:=false) (by kernel_rfl) e145))) (k:=0) (by kernel_rfl) (fun e=>absurd e (by decide)) (by decide) ?_;refine WD.a 0 (some 140) (.bool t139_146) h_141 ?_;refine WD.nil ?_;exact gW _ (J80 _ _ hF)
          |false=>
           replace hF:=z54 hF
           refine oD 0 (some 133) ?_;refine oD 0 (some 135) ?_;refine oD 0 (some 136) ?_;refine oD 0 (some 137) ?_;refine oD 1 (some 138) ?_;refine WD.not (d:=(some 134)) (by kernel_rfl) (by kernel_rfl) (k:=2) (by kernel_rfl) (fun _=>(by kernel_rfl)) (by decide) ?_;refine oD 0 (some 139) ?_;refine WD.a 0 (some 140) (.bool false) h_135 ?_;refine WD.nil ?_;exact gW _ (J80 _ _ hF)
        refine y12 (by kernel_rfl) (hc.ok w0) (plan:=[0,1,2,3,4,5,6,7,8,9,10,11,13,14,15,16,12,17,18]) (by kernel_rfl) (by kernel_rfl) (by kernel_rfl) ?_;refine WD.a 0 (some 111) (.int .i64 t6_69) h_72 ?_;refine WD.a 0 (some 112) (.int .i64 t8_71) h_72 ?_;obtain⟨t113,e148,hF⟩:=z7 hF;refine WD.val (d:=(some 113)) (v:=.bool t113) (h':=h_72) (by kernel_rfl) (by kernel_rfl) (z2a AV.bool e148 (by kernel_rfl)) (k:=0) (by kernel_rfl) (fun e=>absurd e (by decide)) (by decide) ?_;refine WD.a 0 (some 114) (.bool t113) h_72 ?_
        cases t113 with
        |true=>
         replace hF:=z53 hF
         refine oD 0 (some 115) ?_;refine oD 0 (some 116) ?_;refine oD 0 (some 117) ?_;refine oD 0 (some 118) ?_;refine oD 0 (some 119) ?_;refine WD.a 0 (some 120) (.bool true) h_72 ?_;refine WD.a 0 (some 121) (.bool true) h_72 ?_;refine oD 0 (some 122) ?_;refine oD 0 (some 124) ?_;refine oD 0 (some 125) ?_;refine oD 0 (some 126) ?_;refine oD 1 (some 127) ?_;refine WD.not (d:=(some 123)) (by kernel_rfl) (by kernel_rfl) (k:=2) (by kernel_rfl) (fun _=>(by kernel_rfl)) (by decide) ?_;refine oD 0 (some 128) ?_;refine WD.a 0 (some 129) (.bool true) h_72 ?_;refine WD.nil ?_;exact gW _ (J75 _ _ hF)
        |false=>
         replace hF:=z54 hF
         refine WD.a 0 (some 115) t5_68 h_72 ?_
         replace hF:=z26 hF;obtain⟨v116,h_149,e150,hF⟩:=hF
         replace hF:=z4 hF;obtain⟨t116,c151,hF⟩:=hF
         have c151:=z1e c151;subst c151;refine WD.b 0 (some 116) (.bool t116) h_149 e150 ?_;refine WD.a 0 (some 117) t7_70 h_149 ?_
         replace hF:=z26 hF;obtain⟨v118,h_152,e153,hF⟩:=hF
         replace hF:=z4 hF;obtain⟨t118,c154,hF⟩:=hF
         have c154:=z1e c154;subst c154;refine WD.b 0 (some 118) (.bool t118) h_152 e153 ?_;obtain⟨t119,e155,hF⟩:=z7 hF;refine WD.val (d:=(some 119)) (v:=.bool t119) (h':=h_152) (by kernel_rfl) (by kernel_rfl) (z2a AV.bool e155 (by kernel_rfl)) (k:=0) (by kernel_rfl) (fun e=>absurd e (by decide)) (by decide) ?_;refine WD.a 0 (some 120) (.bool t119) h_152 ?_;refine WD.a 0 (some 121) (.bool t119) h_152 ?_
         cases t119 with
         |true=>
          replace hF:=z53 hF
          refine oD 0 (some 122) ?_;refine oD 0 (some 124) ?_;refine oD 0 (some 125) ?_;refine oD 0 (some 126) ?_;refine oD 1 (some 127) ?_;refine WD.not (d:=(some 123)) (by kernel_rfl) (by kernel_rfl) (k:=2) (by kernel_rfl) (fun _=>(by kernel_rfl)) (by decide) ?_;refine oD 0 (some 128) ?_;refine WD.a 0 (some 129) (.bool true) h_152 ?_;refine WD.nil ?_;exact gW _ (J75 _ _ hF)
         |false=>
          replace hF:=z54 hF
          refine WD.a 0 (some 122) r20 h_152 ?_;refine WD.a 0 (some 124) r21 h_152 ?_;obtain⟨t125,e156,hF⟩:=z4 hF;refine WD.b 0 (some 125) t125 h_152 (z1f (h:=h_152) e156) ?_;obtain⟨t126,e157,hF⟩:=z4 hF;refine WD.b 0 (some 126) t126 h_152 (z10 (P:=Try.prog) (h:=h_152) (s:=62) (f:=2) (by kernel_rfl) e157) ?_
          replace hF:=z4 hF;obtain⟨v127,e158,hF⟩:=hF
          replace hF:=z4 hF;obtain⟨t127,c159,hF⟩:=hF
          have c159:=z15 c159;subst c159;refine WD.b 1 (some 127) (.int .i64 t127) h_152 (z12 (P:=Try.prog) (h:=h_152) (t:=3) (by kernel_rfl) e158) ?_
          replace hF:=z18 hF;obtain⟨r123,h_160,e161,hF⟩:=hF
          replace hF:=z4 hF;obtain⟨t123,c162,hF⟩:=hF
          have c162:=z15 c162;subst c162;obtain⟨k163,hF⟩:=z8a hF;refine WD.call (d:=(some 123)) (by kernel_rfl) (by kernel_rfl) (by kernel_rfl) e161 (k:=2) (by kernel_rfl) (fun _=>(Eq.trans (by kernel_rfl) k163)) (by decide) ?_;obtain⟨t128,e164,hF⟩:=z7 hF;refine WD.val (d:=(some 128)) (v:=.bool t128) (h':=h_160) (by kernel_rfl) (by kernel_rfl) (z2a AV.bool e164 (by kernel_rfl)) (k:=0) (by kernel_rfl) (fun e=>absurd e (by decide)) (by decide) ?_;refine WD.a 0 (some 129) (.bool t128) h_160 ?_;refine WD.nil ?_;exact gW _ (J75 _ _ hF)
       cases t85 with
       |true=>
        refine oT hF fun hF=>?_;refine W.s (fun K165 n165 e165 q165 p165=>?_);obtain⟨k166,e166,hF⟩:=z7 hF
        have J166:∀(t98:Bool) (h_167:AHeap),k166 t98 h_167=some (rR,hR)→Go w0 m0 (Func.ntmps Try.f5) (K165 .normal) [(3,r20),(4,r21),(5,t5),(6,.int .i64 t6),(7,t7),(8,.int .i64 t8),(32,t0),(33,.int .i64 t33),(34,.int .i64 t34),(98,.bool t98)] [] h_167:=by
         intro t98 h_167 hF;rw[e166] at hF;refine n165 ?_
         cases t98 with
         |true=>
          refine oT hF fun hF=>?_;refine oG fun n168=>W.r ?_;refine oA 2 (.bool false) ?_;refine oV [(2,.bool false)] (n168 (oY (q64 (q60 (q45 (q44 (q39 (q35 (q32 ?_)))))))));exact lZ hF [.tmp 2] [.bool false] (rT zc)
         |false=>
          refine oU hF fun hF=>?_;refine oZ ?_;exact gW _ (J67 _ _ _ _ _ hF)
        refine y12 (by kernel_rfl) (hc.ok w0) (plan:=[0,1,2,3,4,5,7,8,9,6,10,11,12]) (by kernel_rfl) (by kernel_rfl) (by kernel_rfl) ?_;refine WD.a 0 (some 86) t5 h_59 ?_
        replace hF:=z26 hF;obtain⟨v87,h_169,e170,hF⟩:=hF
        replace hF:=z4 hF;obtain⟨t87,c171,hF⟩:=hF
        have c171:=z1e c171;subst c171;refine WD.b 0 (some 87) (.bool t87) h_169 e170 ?_;refine WD.a 0 (some 88) (.bool t87) h_169 ?_
        cases t87 with
        |true=>
         replace hF:=z53 hF
         refine WD.a 0 (some 89) t5 h_169 ?_;refine WD.a 0 (some 90) (AV.ptr (AHeap.next h_40) 2) h_169 ?_;obtain⟨t91,e172,hF⟩:=z4 hF;refine WD.b 1 (some 91) (.agg t91) h_169 (z36 (P:=Try.prog) (h:=h_169) (t:=31) (by kernel_rfl) (by kernel_rfl) e172) ?_;refine WD.a 0 (some 93) t7 h_169 ?_;refine WD.a 0 (some 94) (AV.ptr (AHeap.next h_40) 2) h_169 ?_;obtain⟨t95,e173,hF⟩:=z4 hF;refine WD.b 1 (some 95) (.agg t95) h_169 (z36 (P:=Try.prog) (h:=h_169) (t:=31) (by kernel_rfl) (by kernel_rfl) e173) ?_
         replace hF:=z18 hF;obtain⟨r92,h_174,e175,hF⟩:=hF
         replace hF:=z4 hF;obtain⟨t92,c176,hF⟩:=hF
         have c176:=z15 c176;subst c176;obtain⟨k177,hF⟩:=z8a hF;refine WD.call (d:=(some 92)) (by kernel_rfl) (by kernel_rfl) (by kernel_rfl) e175 (k:=2) (by kernel_rfl) (fun _=>(Eq.trans (by kernel_rfl) k177)) (by decide) ?_
         replace hF:=z18 hF;obtain⟨r96,h_178,e179,hF⟩:=hF
         replace hF:=z4 hF;obtain⟨t96,c180,hF⟩:=hF
         have c180:=z15 c180;subst c180;refine WD.call (d:=(some 96)) (by kernel_rfl) (by kernel_rfl) (by kernel_rfl) e179 (k:=2) (by kernel_rfl) (fun _=>(by kernel_rfl)) (by decide) ?_;obtain⟨t97,e181,hF⟩:=z7 hF;refine WD.val (d:=(some 97)) (v:=.bool t97) (h':=h_178) (by kernel_rfl) (by kernel_rfl) (z2a AV.bool e181 (by kernel_rfl)) (k:=0) (by kernel_rfl) (fun e=>absurd e (by decide)) (by decide) ?_;refine WD.a 0 (some 98) (.bool t97) h_178 ?_;refine WD.nil ?_;exact gW _ (J166 _ _ hF)
        |false=>
         replace hF:=z54 hF
         refine oD 0 (some 89) ?_;refine oD 0 (some 90) ?_;refine oD 1 (some 91) ?_;refine oD 0 (some 93) ?_;refine oD 0 (some 94) ?_;refine oD 1 (some 95) ?_;refine WD.not (d:=(some 92)) (by kernel_rfl) (by kernel_rfl) (k:=2) (by kernel_rfl) (fun _=>(by kernel_rfl)) (by decide) ?_;refine WD.not (d:=(some 96)) (by kernel_rfl) (by kernel_rfl) (k:=2) (by kernel_rfl) (fun _=>(by kernel_rfl)) (by decide) ?_;refine oD 0 (some 97) ?_;refine WD.a 0 (some 98) (.bool false) h_169 ?_;refine WD.nil ?_;exact gW _ (J166 _ _ hF)
       |false=>
        refine oU hF fun hF=>?_;refine oG fun n182=>W.r ?_;refine oB 100 hF fun t100 hF=>?_;refine oA 99 (.bool t100) ?_;refine oV [(3,r20),(4,r21),(5,t5),(6,.int .i64 t6),(7,t7),(8,.int .i64 t8),(10,(z1a h_40)),(32,t0),(33,.int .i64 t33),(34,.int .i64 t34),(99,.bool t100)] (n182 ?_);obtain⟨k184,e184,hF⟩:=z7 hF
        have J184:∀(t5_185:AV) (t6_186:Int) (t7_187:AV) (t8_188:Int) (h_189:AHeap),k184 t5_185 t6_186 t7_187 t8_188 h_189=some (rR,hR)→Go w0 m0 (Func.ntmps Try.f5) (K64 .normal) [(3,r20),(4,r21),(5,t5_185),(6,.int .i64 t6_186),(7,t7_187),(8,.int .i64 t8_188),(32,t0),(33,.int .i64 t33),(34,.int .i64 t34)] [] h_189:=by
         intro t5_185 t6_186 t7_187 t8_188 h_189 hF;rw[e184] at hF;exact gW _ (J67 _ _ _ _ _ hF)
        cases t100 with
        |true=>
         refine oT hF fun hF=>?_;refine oG fun n190=>W.r ?_;refine oA 101 r21 ?_;refine oA 102 (AV.ptr (AHeap.next h_40) 1) ?_;refine oLi 103 3 hF fun t103 hF=>?_;refine oI 104 .i64 hF fun t104 hF=>?_;refine oC0 105 hF fun t105 hF=>?_;refine oF 106 62 1 hF fun t106 hF=>?_;refine oW 3 (.int .i64 t104) hF fun h_196 hF=>?_;refine oV [(3,r20),(4,r21),(5,t5),(6,.int .i64 t6),(7,t7),(8,.int .i64 t8),(10,(z1a h_40)),(32,t0),(33,.int .i64 t33),(34,.int .i64 t34)] (n190 (W.r ?_));refine oA 107 r20 ?_;refine oA 108 (AV.ptr (AHeap.next h_40) 1) ?_;refine oLi 109 3 hF fun t109 hF=>?_;refine oCi hc 110 hF fun t110 h_200 hF=>?_;refine oV [(3,r20),(4,r21),(5,t5),(6,.int .i64 t6),(7,t7),(8,.int .i64 t8),(32,t0),(33,.int .i64 t33),(34,.int .i64 t34)] ?_;exact gW _ (J184 _ _ _ _ _ hF)
        |false=>
         refine oU hF fun hF=>?_;refine oG fun n203=>W.r ?_;refine oA 58 (AV.ptr (AHeap.next h_40) 5) ?_;refine oL 59 32 hF fun v59 hF=>?_;refine oA 12 v59 ?_;refine oV [(3,r20),(4,r21),(10,(z1a h_40)),(12,v59),(32,t0),(33,.int .i64 t33),(34,.int .i64 t34)] (n203 ?_);refine W.s (fun K205 n205 e205 q205 p205=>?_);refine oG fun n206=>W.r ?_;refine oA 60 (AV.ptr (AHeap.next h_40) 0) ?_;refine oLi 61 3 hF fun t61 hF=>?_;refine oB 62 hF fun t62 hF=>?_;refine oV [(3,r20),(4,r21),(10,(z1a h_40)),(12,v59),(32,t0),(33,.int .i64 t33),(34,.int .i64 t34),(62,.bool t62)] (n206 ?_);obtain⟨k210,e210,hF⟩:=z7 hF
         have J210:∀(t12:AV) (h_211:AHeap),k210 t12 h_211=some (rR,hR)→Go w0 m0 (Func.ntmps Try.f5) (K205 .normal) [(3,r20),(4,r21),(10,(z1a h_40)),(12,t12),(32,t0),(33,.int .i64 t33),(34,.int .i64 t34)] [] h_211:=by
          intro t12 h_211 hF;rw[e210] at hF;refine n205 ?_;refine oG fun n212=>W.r ?_;refine oA 64 r21 ?_;refine oA 65 t12 ?_;refine oA 66 (AV.ptr (AHeap.next h_40) 1) ?_;refine oLi 67 3 hF fun t67 hF=>?_;refine oC hc (some 68) hF fun r68 h_215 hF=>?_;refine oV [(3,r20),(4,r21),(10,(z1a h_40)),(12,t12),(32,t0),(33,.int .i64 t33),(34,.int .i64 t34)] (n212 ?_);refine oG fun n217=>W.r ?_;refine oA 69 r20 ?_;refine oA 70 t12 ?_;refine oA 71 (AV.ptr (AHeap.next h_40) 1) ?_;refine oLi 72 3 hF fun t72 hF=>?_;refine oCi hc 73 hF fun t73 h_220 hF=>?_;refine oV [(3,r20),(4,r21),(32,t0),(33,.int .i64 t33),(34,.int .i64 t34)] (n217 ?_);refine oG fun n223=>W.r ?_;refine oA 75 r20 ?_;refine oC hc (some 76) hF fun r76 h_224 hF=>?_;refine oA 74 r76 ?_;refine oE 77 hF fun v77 hF=>?_;refine oEi 78 hF fun t78 hF=>?_;refine oA 5 v77 ?_;refine oA 6 (.int .i64 t78) ?_;refine oV [(3,r20),(4,r21),(5,v77),(6,.int .i64 t78),(32,t0),(33,.int .i64 t33),(34,.int .i64 t34)] (n223 (W.r ?_));refine oA 80 r21 ?_;refine oC hc (some 81) hF fun r81 h_229 hF=>?_;refine oA 79 r81 ?_;refine oE 82 hF fun v82 hF=>?_;refine oEi 83 hF fun t83 hF=>?_;refine oA 7 v82 ?_;refine oA 8 (.int .i64 t83) ?_;refine oV [(3,r20),(4,r21),(5,v77),(6,.int .i64 t78),(7,v82),(8,.int .i64 t83),(32,t0),(33,.int .i64 t33),(34,.int .i64 t34)] ?_;exact gW _ (J184 _ _ _ _ _ hF)
         cases t62 with
         |true=>
          refine oT hF fun hF=>?_;refine W.r ?_;refine oK 63 hF fun v63 h_234 hF=>?_;refine oA 12 v63 ?_;refine oV [(3,r20),(4,r21),(10,(z1a h_40)),(12,v63),(32,t0),(33,.int .i64 t33),(34,.int .i64 t34)] ?_;exact gW _ (J210 _ _ hF)
         |false=>
          refine oU hF fun hF=>?_;refine oZ ?_;exact gW _ (J210 _ _ hF)
      cases t40 with
      |true=>
       refine oT hF fun hF=>?_;refine oG fun n236=>W.r ?_;refine oA 41 (AV.ptr (AHeap.next h_40) 1) ?_;refine oLi 42 3 hF fun t42 hF=>?_;refine oI 43 .i64 hF fun t43 hF=>?_;refine oA 11 (.int .i64 t43) ?_;refine oV [(3,r20),(4,r21),(5,t5),(6,.int .i64 t6),(7,t7),(8,.int .i64 t8),(10,(z1a h_40)),(11,.int .i64 t43),(32,t0),(33,.int .i64 t33),(34,.int .i64 t34)] (n236 ?_);refine oG fun n240=>?_;refine y12 (by kernel_rfl) (hc.ok w0) (plan:=[0,1,2,3,5,6,7,8,9,4,10,11]) (by kernel_rfl) (by kernel_rfl) (by kernel_rfl) ?_;refine WD.a 0 (some 44) r20 h_51 ?_;refine WD.a 0 (some 45) (.int .i64 t43) h_51 ?_;refine WD.a 0 (some 46) (AV.ptr (AHeap.next h_40) 4) h_51 ?_
       replace hF:=z4 hF;obtain⟨v47,e241,hF⟩:=hF
       replace hF:=z4 hF;obtain⟨t47,c242,hF⟩:=hF
       have c242:=z22 c242;subst c242;refine WD.b 1 (some 47) (ze t47) h_51 (z12 (P:=Try.prog) (h:=h_51) (t:=9) (by kernel_rfl) e241) ?_;refine WD.a 0 (some 49) r21 h_51 ?_;refine WD.a 0 (some 50) (.int .i64 t43) h_51 ?_;refine WD.a 0 (some 51) (AV.ptr (AHeap.next h_40) 4) h_51 ?_
       replace hF:=z4 hF;obtain⟨v52,e243,hF⟩:=hF
       replace hF:=z4 hF;obtain⟨t52,c244,hF⟩:=hF
       have c244:=z22 c244;subst c244;refine WD.b 1 (some 52) (ze t52) h_51 (z12 (P:=Try.prog) (h:=h_51) (t:=9) (by kernel_rfl) e243) ?_;refine WD.a 0 (some 53) (.agg ([.int .i64 1,ze t52,.int .i64 0]:List AV)) h_51 ?_
       replace hF:=z18 hF;obtain⟨r48,h_245,e246,hF⟩:=hF
       replace hF:=z4 hF;obtain⟨t48,c247,hF⟩:=hF
       have c247:=z15 c247;subst c247;obtain⟨k248,hF⟩:=z8a hF;refine WD.call (d:=(some 48)) (by kernel_rfl) (by kernel_rfl) (by kernel_rfl) e246 (k:=2) (by kernel_rfl) (fun _=>(Eq.trans (by kernel_rfl) k248)) (by decide) ?_
       replace hF:=z18 hF;obtain⟨r54,h_249,e250,hF⟩:=hF
       replace hF:=z4 hF;obtain⟨t54,c251,hF⟩:=hF
       have c251:=z15 c251;subst c251;refine WD.call (d:=(some 54)) (by kernel_rfl) (by kernel_rfl) (by kernel_rfl) e250 (k:=2) (by kernel_rfl) (fun _=>(by kernel_rfl)) (by decide) ?_;obtain⟨t55,e252,hF⟩:=z7 hF;refine WD.val (d:=(some 55)) (v:=.bool t55) (h':=h_249) (by kernel_rfl) (by kernel_rfl) (z2a AV.bool e252 (by kernel_rfl)) (k:=0) (by kernel_rfl) (fun e=>absurd e (by decide)) (by decide) ?_;refine WD.nil ?_;refine gW [(3,r20),(4,r21),(5,t5),(6,.int .i64 t6),(7,t7),(8,.int .i64 t8),(10,(z1a h_40)),(32,t0),(33,.int .i64 t33),(34,.int .i64 t34),(55,.bool t55)] (n240 ?_)
       cases t55 with
       |true=>
        refine oT hF fun hF=>?_;refine oG fun n253=>W.r ?_;refine oA 2 (.bool false) ?_;refine oV [(2,.bool false)] (n253 (oY (q53 (q45 (q44 (q39 (q35 (q32 ?_))))))));exact lZ hF [.tmp 2] [.bool false] (rT zc)
       |false=>
        refine oU hF fun hF=>?_;refine oZ ?_;exact gW _ (J58 _ hF)
      |false=>
       refine oU hF fun hF=>?_;refine oZ ?_;exact gW _ (J58 _ hF)
     |false=>
      refine oU hF fun hF=>?_;refine W.exit (by kernel_rfl) ?_;refine e43 (e39 ?_);refine s35 (by kernel_rfl) ?_;exact gW _ (J36 _ hF)
   exact gW _ (L39 _ _ _ _ _ _ _ hF)
theorem eqRBox(b:Nat)(h:AHeap):z65 Try.prog h .eql 45 true (some (.ptr b 0)) (some AV.nilp)=some (.val (.bool false),h):=by kernel_rfl
structure Dd (N:Nat) (lo lo2:Nat→Prop) (H:AHeap) (db rb:Nat) (s:DS) (B:Nat):Prop where
 K:At lo H db s B
 V:RefAt lo2 H rb s
 ok:SOk s B
 sub:∀b,lo b→lo2 b
 hl:∀b,lo2 b→N≤b
 hr:N≤rb
 hN:N≤H.next
structure Du (N:Nat) (lo lo2:Nat→Prop) (H:AHeap) (db rb xb yb:Nat) (s:DS) (x:BoxS) (y:RB) (B:Nat):Prop where
 dd:Dd N lo lo2 H db rb s B
 kx:RowH H xb z23f (z13f db x)
 ky:RowH H yb z194 (rbC rb y)
 hxb:xb<H.next
 hyb:yb<H.next
 hx1:¬lo xb
 hx2:lo2 xb
 hy1:¬lo yb
 hy2:lo2 yb
 hxy:xb≠yb
 rel:Rel x y
 m0:0≤x.m0∧x.m0≤(B:Int)
 m1:0≤x.m1∧x.m1≤(B:Int)
section
variable {N n d D db rb xb yb B:Nat}{lo lo2 lo':Nat→Prop}{h0 H H':AHeap}{s:DS}{x:BoxS}{y:RB}{t f:Int}{Q:ARes→AHeap→Prop}
theorem Dd.nr(Y:Dd N lo lo2 H db rb s B):¬lo2 rb∧rb<H.next:=by
 obtain⟨_,_,V⟩:=Y.V;exact⟨V.nlo,V.hrb⟩
theorem Dd.alloc(Y:Dd N lo lo2 H db rb s B)(T:Tch [] H H'):Dd N (shr lo H.next H'.next) (shr lo2 H.next H'.next) H' db rb s B:=
 ⟨Y.K.part T (fun _ h=>nomatch h),Y.V.tch T (fun _ h=>nomatch h) (fun _ h _=>h.1),Y.ok,fun b hb=>⟨Y.sub b hb.1,hb.2⟩,fun b hb=>Y.hl b hb.1,Y.hr,Nat.le_trans Y.hN T.1⟩
theorem Du.alloc(Y:Du N lo lo2 H db rb xb yb s x y B)(T:Tch [] H H'):Du N (shr lo H.next H'.next) (shr lo2 H.next H'.next) H' db rb xb yb s x y B:=
 ⟨Y.dd.alloc T,Y.kx.tch T Y.hxb (fun h=>nomatch h),Y.ky.tch T Y.hyb (fun h=>nomatch h),Nat.lt_of_lt_of_le Y.hxb T.1,Nat.lt_of_lt_of_le Y.hyb T.1,fun h=>Y.hx1 h.1,⟨Y.hx2,.inl Y.hxb⟩,fun h=>Y.hy1 h.1,⟨Y.hy2,.inl Y.hyb⟩,Y.hxy,Y.rel,Y.m0,Y.m1⟩
theorem Dd.crash(Y:Dd N lo lo2 H db rb s B)(hn:1000000<n)(hB:B<900000){torn:Int}(ht:torn<9223372036854775808){lv:AV}{zs:List Int}(hz:zs.length<9223372036854775808)(rd:RdI (fun b=>lo2 b∨b=rb) H lv zs):
  ∃H1 H2 S2,wL n (D+6) (d+1) false 25 [.ptr rb 0,lv,.int .i64 torn] H=some (.ret (.tup []),H1)∧Tch [rb] H H1∧wL n (D+6) (d+1) false 15 [.ptr db 0,lv,.int .i64 torn] H1=some (.ret (.int .i64 0),H2)∧Tch S2 H1 H2∧(∀b∈S2,lo b)∧Dd N lo lo2 H2 db rb (z27e s zs torn) B:=by
 obtain⟨nr,lr⟩:=Y.nr;obtain⟨H1,e1,t1,V1⟩:=crash_r (n:=n) (d:=D+4) hn Y.V Y.ok hB ht rd;have K1:=Y.K.tch t1 (fun b hb=>.inl (by rw[List.mem_singleton.1 hb];exact fun h=>nr (Y.sub _ h)));have rd1:=rd.tch t1 (fun b hb=>.inr (List.mem_singleton.1 hb));have rd2:RdI lo H1 lv zs:=⟨rd1.1,fun S h t hS i hi=>rd1.2 S h t (fun b hb=>.inl (Y.sub b (hS b hb))) i hi⟩;obtain⟨H2,S2,e2,K2,t2,hS2⟩:=z43a (n:=n) (d:=D+2) hn hB ht hz K1 rd2;exact⟨H1,H2,S2,(z293 25).trans e1,t1,(z293 15).trans e2,t2,hS2,K2,V1.tch t2 (fun b hb=>.inl (Y.sub b (hS2 b hb))) (fun _ h _=>h),Y.ok.crash zs torn,Y.sub,Y.hl,Y.hr,Nat.le_trans Y.hN (Nat.le_trans t1.1 t2.1)⟩
theorem Dd.open(Y:Dd N lo lo2 H db rb s B)(hp:s.p= -1)(hn:1000000000<n)(hB:B<300000):
  ∃lo' lo2' H1 H2 S1 xb yb,wL n (D+7) (d+6) false 10 [.ptr db 0] H=some (.ret (.tup [.ptr xb 0,.int .i64 0]),H1)∧Tch S1 H H1∧(∀b∈S1,lo b)∧
   wL n (D+7) (d+6) false 21 [.ptr rb 0] H1=some (.ret (.tup [.ptr yb 0,.int .i64 0]),H2)∧Tch [rb] H1 H2∧Du N lo' lo2' H2 db rb xb yb (opD s) (opX s) (opY s) (B+6)∧∀b,lo2' b→b<H.next→lo2 b:=by
 obtain⟨nr,lr⟩:=Y.nr;have l0:(z21 s 0).length≤B:=Y.K.read_len (z:=0) (by decide);have l1:(z21 s 1).length≤B:=Y.K.read_len (z:=1) (by decide);have b0:=z104 (z21 s 0);have b1:=z104 (z21 s 1);obtain⟨m1,mo,mp⟩:=z424 (s:=s) (z:=0) (by decide) hp;obtain⟨m2,_,_⟩:=z424 (s:=z8c s ((0:Nat):Int) (g0 s ((0:Nat):Int)) (z0 s ((0:Nat):Int))) (z:=1) (by decide) mp;obtain⟨r1,_⟩:=z397 (s:=z8c s ((0:Nat):Int) (g0 s ((0:Nat):Int)) (z0 s ((0:Nat):Int))) (s':=s) (z:=1) (by rw[mp,hp]) (mo 1 (by decide))
 have hg1:g0 (z8c s ((0:Nat):Int) (g0 s ((0:Nat):Int)) (z0 s ((0:Nat):Int))) ((1:Nat):Int)=g0 s 1:=by
  show ((29*(z44 (z21 (z8c s ((0:Nat):Int) (g0 s ((0:Nat):Int)) (z0 s ((0:Nat):Int))) ((1:Nat):Int))).length:Nat):Int)=((29*(z44 (z21 s ((1:Nat):Int))).length:Nat):Int);rw[r1]
 have hz1:z0 (z8c s ((0:Nat):Int) (g0 s ((0:Nat):Int)) (z0 s ((0:Nat):Int))) ((1:Nat):Int)=z0 s 1:=by
  show ((z21 (z8c s ((0:Nat):Int) (g0 s ((0:Nat):Int)) (z0 s ((0:Nat):Int))) ((1:Nat):Int)).length:Int)=((z21 s ((1:Nat):Int)).length:Int);rw[r1]
 rw[hg1,hz1] at m2;obtain⟨lo1,H1,xb,S1,e1,K1,L1,kx1,hx1,hx2,hx3,t1,hS1⟩:=open_w (n:=n) (D:=D+2) (d:=d) Y.K (by omega) hn (by rw[hp];decide) (by omega) (by omega) m1 m2;have n1:=t1.1;have V1:RefAt (fun b=>lo2 b∨b=xb) H1 rb s:=Y.V.tch t1 (fun b hb=>.inl (Y.sub b (hS1 b hb))) (fun b hb hlt=>hb.resolve_right (by omega));obtain⟨H2,e2,ky2,hy2,t2,V2⟩:=ropen_w (n:=n) (d:=D) hn V1 Y.ok (by omega) K1.ex hp;have n2:=t2.1;have K2:=K1.part t2 (fun b hb=>.inl (by rw[List.mem_singleton.1 hb];exact fun h=>nr (Y.sub _ (L1 _ h))));have kx2:=kx1.tch t2 hx1 (fun h=>by have:=List.mem_singleton.1 h;omega);have hok:SOk (opD s) (B+6):=((Y.ok.mend 0 (g0 s 0) (z0 s 0)).mend 1 (g0 s 1) (z0 s 1)).mono (by omega);have hNH:=Y.hN;refine⟨_,_,H1,H2,S1,xb,H1.next,e1,t1,hS1,(z293 21).trans e2,t2,⟨⟨K2,V2,hok,fun b hb=>.inl ⟨.inl (Y.sub b (L1 b hb.1)),hb.2⟩,fun b hb=>?_,Y.hr,by omega⟩,kx2,ky2,by omega,hy2,fun hh=>hx3 hh.1,.inl ⟨.inr rfl,.inl hx1⟩,fun hh=>?_,.inr rfl,by omega,rel_open (by omega) (by omega),?_,?_⟩,fun b hb hlt=>?_⟩
 ·rcases hb with ⟨hb | rfl, _⟩ | rfl
  ·exact Y.hl b hb
  ·omega
  ·omega
 ·rcases hh.2 with h|h<;>omega
 ·show 0 ≤ ((z44 (z21 s 0)).length : Int) ∧ ((z44 (z21 s 0)).length : Int) ≤ ((B + 6 : Nat) : Int)
  omega
 ·show 0 ≤ ((z44 (z21 s 1)).length : Int) ∧ ((z44 (z21 s 1)).length : Int) ≤ ((B + 6 : Nat) : Int)
  omega
 ·rcases hb with ⟨hb | rfl, _⟩ | rfl
  ·exact hb
  ·omega
  ·omega
theorem Du.write(Y:Du N lo lo2 H db rb xb yb s x y B)(hn:1000000<n)(hB:B<300000)(t f:Int):
  ∃lo' lo2' H1 H2 S1 y',wL n (D+7) (d+1) false 11 [.ptr xb 0,.agg [.int .i64 t,.int .i64 f]] H=some (.ret (.int .i64 (wr s x t f).1),H1)∧Tch S1 H H1∧(∀b∈S1,lo2 b)∧
   wL n (D+7) (d+1) false 24 [.ptr yb 0,.agg [.int .i64 t,.int .i64 f]] H1=some (.ret (.int .i64 (wr s x t f).1),H2)∧Tch [rb,yb] H1 H2∧Du N lo' lo2' H2 db rb xb yb (wr s x t f).2.2 (wr s x t f).2.1 y' (B+40)∧∀b,lo2' b→b<H.next→lo2 b:=by
 obtain⟨nr,lr⟩:=Y.dd.nr;obtain⟨p1,p2,p3,p4,p5,p6⟩:=Y.rel.place;have hm0:=Y.m0;have hm1:=Y.m1;obtain⟨lo1,H1,S1,e1,K1,L1,kx1,hx1,t1,hS1⟩:=z479 (n:=n) (d:=D+1) (t:=t) (f:=f) hn Y.dd.K (by omega) Y.kx Y.hxb Y.hx1 Y.rel.file Y.rel.c.1 (by omega) (by omega);have n1:=t1.1;have hS1':∀b∈S1,lo2 b:=fun b hb=>(hS1 b hb).elim (Y.dd.sub b) fun h=>h▸Y.hx2;have V1:RefAt lo2 H1 rb s:=Y.dd.V.tch t1 (fun b hb=>.inl (hS1' b hb)) (fun _ h _=>h);have ky1:=Y.ky.tch t1 Y.hyb (fun h=>(hS1 _ h).elim Y.hy1 fun h=>Y.hxy h.symm);have hyr:yb≠rb:=fun h=>nr (h▸Y.hy2)
 have hinn:y.inn<800000:=by
  have h1:=Y.rel.z;have h2:=Y.rel.nz
  by_cases hc:x.ne.c=0
  ·rw [(h1 hc).2]
   decide
  ·rw [(h2 hc).2]
   split<;>omega
 obtain⟨H2,y',e2,ky2,rel',V2,t2⟩:=rwrite_w (n:=n) (d:=D+1) (x:=x) (t:=t) (f:=f) hn V1 Y.dd.ok (by omega) K1.ex Y.rel hinn ky1 (Nat.lt_of_lt_of_le Y.hyb n1) Y.hy2 hyr;have n2:=t2.1;have nrx:rb≠xb:=fun h=>nr (h▸Y.hx2)
 have K2:=K1.part t2 (fun b hb=>.inl (by
  rcases List.mem_cons.1 hb with rfl|hb
  ·exact fun h=>nr (Y.dd.sub _ (L1 _ h))
  ·rw [List.mem_singleton.1 hb]
   exact fun h=>Y.hy1 (L1 _ h)))
 have kx2:=kx1.tch t2 (Nat.lt_of_lt_of_le Y.hxb n1) (fun h=>by
  rcases List.mem_cons.1 h with h|h
  ·exact nrx h.symm
  ·exact Y.hxy (List.mem_singleton.1 h))
 obtain⟨w0,w1⟩:=wr_m (s:=s) (x:=x) (t:=t) (f:=f) (M:=(B:Int)) hm0 hm1;have hxb:=Y.hxb;have hyb:=Y.hyb;have hNH:=Y.dd.hN;refine⟨_,_,H1,H2,S1,y',(z293 11).trans e1,t1,hS1',(z293 24).trans e2,t2,⟨⟨K2,V2,Y.dd.ok.wr x t f,fun b hb=>⟨Y.dd.sub b (L1 b hb.1),hb.2⟩,fun b hb=>Y.dd.hl b hb.1,Y.dd.hr,by omega⟩,kx2,ky2,by omega,by omega,fun h=>hx1 h.1,⟨Y.hx2,.inl (by omega)⟩,fun h=>Y.hy1 (L1 _ h.1),⟨Y.hy2,.inl (by omega)⟩,Y.hxy,rel',by omega,by omega⟩,fun b hb _=>hb.1⟩
theorem z302(Y:Dd N lo lo2 H db rb s B){k85:AHeap→R}(hk:Wp (k85 H) Q):
  ∀(r i fu:Nat),r+i=2→r<fu→Wp (z84 (wL n (D+6) (d+1) false) (.ptr db 0) (.ptr rb 0) k85 fu (i:Int) H) Q
 |_,_,0,_,hf=>by omega
 |0,i,fu+1,hi,_=>by
  obtain rfl:i=2:=by omega
  rw[zd2];unfold z71;exact Wp.lett (y9 rfl hk)
 |r+1,i,fu+1,hi,hf=>by
  have hi32:i<32:=by omega
  obtain⟨DD,vs,R'⟩:=Y.V;have C:=R'.cells i hi32;have rl:=R'.rl i hi32;have eS:=sure_a (n:=n) (d:=D+4) (z:=(i:Int)) Y.K;rw[if_pos (show isF (i:Int) from ⟨by omega,by omega⟩),if_pos (show isF (i:Int) from ⟨by omega,by omega⟩),Int.toNat_natCast] at eS;have eL:=loose_a (n:=n) (d:=D+4) (z:=(i:Int)) Y.K;rw[if_pos (show isF (i:Int) from ⟨by omega,by omega⟩),Int.toNat_natCast] at eL;rw[zd2];unfold z71;refine Wp.lett (yc (by rw[decide_eq_true_eq];omega) (Wp.callN ((z293 26).trans eS) (Wp.obind (zd0 _ _) (Wp.obind (z16 _) (Wp.obind (zcf _ _ _) (Wp.obind (z13 _) (y7 fun k104 e104=>?_)))))));refine Wp.obind (z8 _ _) (Wp.obind (z6 _ _ _) (Wp.obind (idxR hi32) (Wp.obind (z6 _ _ _) (Wp.obind (z6 _ _ _) (Wp.obind (y3 R'.row C.c1) (Wp.obind (z16 _) (Wp.lett ?_)))))));rw[z35f.2 (rfl:(s.fs i).sure.u=(s.fs i).sure.u)];refine y9 rfl (Wp.obind (z8 _ _) (Wp.obind (z6 _ _ _) (Wp.obind (idxR hi32) (Wp.obind (z6 _ _ _) (Wp.obind (z6 _ _ _) (Wp.obind (y3 R'.row C.c0) (Wp.obind (z13 _) (Wp.lett ?_))))))));rw[show (!((s.fs i).sure.th == (s.fs i).sure.th))=false by cases(s.fs i).sure.th<;>rfl];refine y9 rfl (Wp.obind (z8 _ _) (Wp.obind (z6 _ _ _) (Wp.obind (idxR hi32) (Wp.obind (z6 _ _ _) (Wp.obind (y3 R'.row C.c2) (Wp.obind rl.len (Wp.callN ((z293 27).trans eL) (Wp.obind (z5 _ _) ?_))))))));refine Wp.chk (z1ad (z83 (by kernel_rfl) (y3 R'.row C.c2)) rfl) (Wp.lett ?_);rw[show (((s.fs i).loose.length:Int) != ((s.fs i).loose.length:Int))=false from ze6 rfl,e104];refine y9 rfl (yd (by omega) (by omega) ?_);rw[show (i:Int)+1=((i+1:Nat):Int) by omega];exact z302 Y hk r (i+1) fu (by omega) (by omega)
end
end Go.Proofs.Yteecmjmglmpbpaa
