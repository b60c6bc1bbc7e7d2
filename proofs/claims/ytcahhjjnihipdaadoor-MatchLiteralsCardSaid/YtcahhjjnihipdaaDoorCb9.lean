/- What matchLiterals_proved stands on, part 9 of 10. -/
import Derived.Test.YtcahhjjnihipdaaDoorCb8
namespace Go.Proofs.YtcahhjjnihipdaaDoor
open Go.RowKit Abs
abbrev TMat:Nat:=78
def z3f6(f:Nat)(a:z331):z331:=(a.1,a.2.dropWhile fun x=>decide (x.2<f))
def z3b5(a:z331):z331:=(a.1,[])
theorem dropW_W(f:Nat):∀l:List z19d,(z237 f l).map (·.2)=(l.map (·.2)).dropWhile fun x=>decide (x.2<f)
 |[]=>rfl
 |x::l=>by
  unfold z237;rw[List.map_cons,List.dropWhile_cons,List.dropWhile_cons]
  by_cases h:x.2.2<f
  ·rw [if_pos (decide_eq_true h), if_pos (decide_eq_true h)]
   exact dropW_W f l
  ·rw[if_neg (by rw[decide_eq_true_eq];exact h),if_neg (by rw[decide_eq_true_eq];exact h),List.map_cons]
def Sub1(H H':AHeap)(ab:Nat)(R R':List ArmT)(F:z331→z331)(P:List ArmT):Prop:=Tch (ab::z5a (P++R)) H H'∧H'.next=H.next∧ArmsAt H' ab (P++R')∧R'.map z112=(R.map z112).map F∧R'.map (·.nb)=R.map (·.nb)∧(∀b∈z5a (P++R'),b∈z5a (P++R))∧(∀B,z2fa B R→z2fa B R')∧R'.map (fun a=>zd7 a.v)=R.map (fun a=>zd7 a.v)
section
variable {H H1 H':AHeap}{ab:Nat}{P R R':List ArmT}{a:ArmT}{v':AV}{l':List z19d}{F:z331→z331}
theorem Sub1.nil(k:ArmsAt H ab (P++[])):Sub1 H H ab [] [] F P:=⟨Tch.refl _ _,rfl,k,rfl,rfl,fun _ h=>h,fun _ h=>h,rfl⟩
theorem z3e4(k:ArmsAt H ab (P++a::R))(k1:ArmAt H1 ab (0+P.length*2) a.nb a.N ((z110 (P++a::R)).set (0+P.length*2+1) v') v' l')(hb:zd7 v'=zd7 a.v)(hl:∀x∈l',x∈a.l)(t:Tch (ab::zd7 a.v) H H1):ArmsAt H1 ab (P++{a with v:=v',l:=l'}::R)∧(∀b∈z5a (P++{a with v:=v',l:=l'}::R),b∈z5a (P++a::R))∧Tch (ab::z5a (P++a::R)) H H1:=by
 have hs:∀b∈l'.map (·.1),b∈a.l.map (·.1):=fun b hb=>by
  obtain⟨x,hx,e⟩:=List.mem_map.1 hb;exact List.mem_map.2 ⟨x,hl x hx,e⟩
 refine⟨k.step k1 (fun b h=>.inl (hb▸h)) (fun b h=>.inl (hs b h)) (t.mono fun b hb=>.inl ?_),fun b h=>?_,t.mono fun b hb=>.inl ?_⟩
 ·rcases List.mem_cons.1 hb with hb | hb
  ·rw [hb]
   exact List.mem_cons_self
  ·exact List.mem_cons_of_mem _ (List.mem_append_left _ hb)
 ·obtain ⟨y, hy, h⟩ := z6f.1 h
  rcases List.mem_append.1 hy with hy|hy
  ·exact z6f.2 ⟨y,List.mem_append_left _ hy,h⟩
  rcases List.mem_cons.1 hy with rfl|hy
  ·refine z6f.2 ⟨a, by simp, ?_⟩
   rcases List.mem_append.1 h with h|h
   ·exact List.mem_append_left _ (hb▸h)
   ·exact List.mem_append_right _ (hs b h)
  ·exact z6f.2 ⟨y,by simp[hy],h⟩
 ·rcases List.mem_cons.1 hb with hb | hb
  ·rw [hb]
   exact List.mem_cons_self
  ·exact List.mem_cons_of_mem _ (z6f.2 ⟨a,by simp,List.mem_append_left _ hb⟩)
theorem Sub1.cons(k:ArmsAt H ab (P++a::R))(k1:ArmAt H1 ab (0+P.length*2) a.nb a.N ((z110 (P++a::R)).set (0+P.length*2+1) v') v' l')(hb:zd7 v'=zd7 a.v)(hl:∀x∈l',x∈a.l)(hll:l'.length≤a.l.length)(hF:(a.N,l'.map (·.2))=F (z112 a))(t:Tch (ab::zd7 a.v) H H1)(hn:H1.next=H.next)(S:Sub1 H1 H' ab R R' F (P++[{a with v:=v',l:=l'}])):
  Sub1 H H' ab (a::R) ({a with v:=v',l:=l'}::R') F P:=by
 obtain⟨_,q2,q3⟩:=z3e4 k k1 hb hl t;obtain⟨s1,s2,s3,s4,s5,s6,s7,s8⟩:=S;have re:∀X:List ArmT,(P++[{a with v:=v',l:=l'}])++X=P++{a with v:=v',l:=l'}::X:=fun X=>by simp
 rw[re] at s1 s3 s6;rw[re] at s6;refine⟨q3.trans (s1.mono fun b hb=>.inl ?_),s2.trans hn,s3,?_,?_,fun b hb=>q2 b (s6 b hb),fun B hB y hy=>?_,?_⟩
 ·rcases List.mem_cons.1 hb with hb | hb
  ·rw [hb]
   exact List.mem_cons_self
  ·exact List.mem_cons_of_mem _ (q2 b hb)
 ·rw [List.map_cons, List.map_cons, List.map_cons, s4, ← hF]
  rfl
 ·rw[List.map_cons,List.map_cons,s5]
 ·rcases List.mem_cons.1 hy with rfl | hy
  ·have := hB a List.mem_cons_self
   exact⟨Nat.le_trans hll this.1,fun x hx=>this.2 x (hl x hx)⟩
  ·exact s7 B (fun y hy=>hB y (List.mem_cons_of_mem _ hy)) y hy
 ·rw [List.map_cons, List.map_cons, s8]
  show zd7 v'::_=_;rw[hb]
end
section
variable {n d mb ab L f:Nat}{Q:ARes→AHeap→Prop}{k:AHeap→R}{bv:AV}
theorem z3a3(hn:1000000<n)(hL:L<1000):
  ∀(R P:List ArmT) (fu:Nat) (H:AHeap),R.length<fu→P.length+R.length=L→ArmsAt H ab (P++R)→RowH H mb TMat [.sl ab 0 L 2,bv,.int .i64 (f:Int)]→mb<H.next→mb ∉ ab::z5a (P++R)→z2fa 90001 R→(∀a∈R,zd7 a.v≠[])→
   (∀(H':AHeap) (R':List ArmT),Sub1 H H' ab R R' (z3f6 f) P→Wp (k H') Q)→Wp (z70 (world n (d+2)) (.ptr mb 0) (L:Int) k fu (P.length:Int) H) Q
 |_,_,0,_,hf,_,_,_,_,_,_,_,_=>by omega
 |[],P,fu+1,H,hf,hPL,ka,km,hm,hmd,hB,hne,hk=>by
  have hPl:P.length=L:=hPL;rw[zb6];unfold z62
  ((with_reducible refine Wp.lett ?_))
  refine y6 (by rw[decide_eq_false_iff_not];omega) ?_;exact hk H [] (Sub1.nil ka)
 |a::R,P,fu+1,H,hf,hPL,ka,km,hm,hmd,hB,hne,hk=>by
  rw[List.length_cons] at hf hPL;have hPl:P.length<L:=by omega
  have hBa:=hB a List.mem_cons_self;obtain⟨k1,hab⟩:=ka.at;have c0:=y5 km (show ([.sl ab 0 L 2,bv,.int .i64 (f:Int)]:List AV)[0]? =some (.sl ab 0 L 2) from rfl);have c2:=y5 km (show ([.sl ab 0 L 2,bv,.int .i64 (f:Int)]:List AV)[2]? =some (.int .i64 (f:Int)) from rfl)
  obtain⟨v',H1,e1,q1,q2,q3,q4⟩:=forget_r (n:=n) (d:=d) (f:=f) k1 (hne a List.mem_cons_self) hab (by omega) (fun x hx=>by
   have:=hBa.2 x hx;omega) hn
  have hds:∀x∈z237 f a.l,x∈a.l:=fun x hx=>by
   obtain⟨j,_,e⟩:=z35d f a.l;rw[e] at hx;exact List.mem_of_mem_drop hx
  have hdl:(z237 f a.l).length≤a.l.length:=by
   obtain⟨j,_,e⟩:=z35d f a.l;rw[e,List.length_drop];omega
  obtain⟨o1,o2,o3⟩:=z3e4 ka q1 q2 hds q4;have el:(P.length:Int)+1=((P.length+1:Nat):Int):=by omega
  have i1:=z25d (b:=ab) hPl;rw[zb6];unfold z62
  ((with_reducible refine Wp.lett ?_))
  refine y8 (by rw[decide_eq_true_eq];omega) ?_;refine Wp.obind (z11 _ _) (Wp.obind (z9 _ _ _) (Wp.obind c0 (Wp.obind i1 (Wp.obind (z11 _ _) (Wp.obind (z9 _ _ _) (Wp.obind c2 (Wp.obind (z4 _ _) (Wp.callN e1 ?_))))))))
  (((with_reducible refine ye ?_ ?_ ?_);omega;omega))
  rw[el];have re:∀X:List ArmT,(P++[{a with v:=v',l:=z237 f a.l}])++X=P++{a with v:=v',l:=z237 f a.l}::X:=fun X=>by simp
  have hP1:(P++[{a with v:=v',l:=z237 f a.l}]).length=P.length+1:=by rw[List.length_append,List.length_singleton]
  rw[←hP1];refine z3a3 hn hL R _ fu H1 (by omega) (by omega) (by rw[re];exact o1) (km.tch o3 hm hmd) (by omega) (fun hb=>hmd ?_) (fun y hy=>hB y (List.mem_cons_of_mem _ hy)) (fun y hy=>hne y (List.mem_cons_of_mem _ hy)) fun H' R' s=>hk H' _ (Sub1.cons ka q1 q2 hds hdl ?_ q4 q3 s)
  ·rw [re] at hb
   rcases List.mem_cons.1 hb with hb|hb
   ·rw [hb]
    exact List.mem_cons_self
   ·exact List.mem_cons_of_mem _ (o2 _ hb)
  ·rw [dropW_W]
   rfl
theorem z321(hL:L<1000):
  ∀(R P:List ArmT) (fu:Nat) (H:AHeap),R.length<fu→P.length+R.length=L→ArmsAt H ab (P++R)→RowH H mb TMat [.sl ab 0 L 2,bv,.int .i64 (f:Int)]→mb<H.next→mb ∉ ab::z5a (P++R)→
   (∀(H':AHeap) (R':List ArmT),Sub1 H H' ab R R' z3b5 P→Wp (k H') Q)→Wp (z63 (world n (d+1)) (.ptr mb 0) (L:Int) k fu (P.length:Int) H) Q
 |_,_,0,_,hf,_,_,_,_,_,_=>by omega
 |[],P,fu+1,H,hf,hPL,ka,km,hm,hmd,hk=>by
  have hPl:P.length=L:=hPL;rw[za6];unfold z55
  ((with_reducible refine Wp.lett ?_))
  refine y6 (by rw[decide_eq_false_iff_not];omega) ?_;exact hk H [] (Sub1.nil ka)
 |a::R,P,fu+1,H,hf,hPL,ka,km,hm,hmd,hk=>by
  rw[List.length_cons] at hf hPL;have hPl:P.length<L:=by omega
  obtain⟨k1,hab⟩:=ka.at;obtain⟨p1,p2,p3,p4,p5,p6,p7,p8,p9,p10,p11,p12,p13,p14⟩:=id k1
  have hlen:0+P.length*2+1<(z110 (P++a::R)).length:=by
   rw[z23f,List.length_append,List.length_cons];omega
  have c0:=y5 km (show ([.sl ab 0 L 2,bv,.int .i64 (f:Int)]:List AV)[0]? =some (.sl ab 0 L 2) from rfl);obtain⟨v',H1,e1,q0,q1,q2,q3,q4⟩:=z265 (n:=n) (d:=d) (live:=0) p1 p4 p2 p5 (Nat.zero_le _) p11
  have q:ArmAt H1 ab (0+P.length*2) a.nb a.N ((z110 (P++a::R)).set (0+P.length*2+1) v') v' []:=by
   refine⟨q0,by omega,?_,List.getElem?_set_self hlen,q1,(fun _ h=>nomatch h),p7.tch q4 p8 fun hb=>?_,by omega,.nil,(fun _ _ h=>nomatch h),(by rw[q2];exact p11),(fun h=>nomatch h),(by rw[q2];exact p13),(fun h=>nomatch h)⟩
   ·rw [List.getElem?_set_ne (by omega)]
    exact p3
   ·rcases List.mem_cons.1 hb with hb | hb
    ·exact hab hb.symm
    ·exact p13 hb
  obtain⟨o1,o2,o3⟩:=z3e4 ka q q2 (fun _ h=>nomatch h) q4;have el:(P.length:Int)+1=((P.length+1:Nat):Int):=by omega
  have i1:=z25d (b:=ab) hPl;rw[za6];unfold z55
  ((with_reducible refine Wp.lett ?_))
  refine y8 (by rw[decide_eq_true_eq];omega) ?_;refine Wp.obind (z11 _ _) (Wp.obind (z9 _ _ _) (Wp.obind c0 (Wp.obind i1 (Wp.callN e1 ?_))))
  (((with_reducible refine ye ?_ ?_ ?_);omega;omega))
  rw[el];have re:∀X:List ArmT,(P++[{a with v:=v',l:=[]}])++X=P++{a with v:=v',l:=[]}::X:=fun X=>by simp
  have hP1:(P++[{a with v:=v',l:=[]}]).length=P.length+1:=by rw[List.length_append,List.length_singleton]
  rw[←hP1];refine z321 hL R _ fu H1 (by omega) (by omega) (by rw[re];exact o1) (km.tch o3 hm hmd) (by omega) (fun hb=>hmd ?_) fun H' R' s=>hk H' _ (Sub1.cons ka q q2 (fun _ h=>nomatch h) (Nat.zero_le _) rfl q4 q3 s);rw[re] at hb
  rcases List.mem_cons.1 hb with hb|hb
  ·rw [hb]
   exact List.mem_cons_self
  ·exact List.mem_cons_of_mem _ (o2 _ hb)
end
noncomputable def matC(ab L:Nat)(bv:AV)(g:Nat):List AV:=[.sl ab 0 L 2,bv,.int .i64 (g:Int)]
structure MatAt (h:AHeap) (mb ab:Nat) (az:List ArmT) (bv:AV) (u:zf) (g:Nat):Prop where
 row:RowH h mb TMat (matC ab az.length bv g)
 hmb:mb<h.next
 arms:ArmsAt h ab az
 buf:BufAt h bv u
 m1:mb ∉ ab::z5a az
 m3:∀a∈az,a.nb≠mb
 b1:∀b∈zd7 bv,b≠mb∧b ∉ ab::z5a az∧∀a∈az,a.nb≠b
 len:az.length<1000
def z1e6(mb ab:Nat)(az:List ArmT)(bv:AV):List Nat:=mb::(zd7 bv++(ab::z5a az))
section
variable {h h':AHeap}{mb ab:Nat}{az:List ArmT}{bv:AV}{u:zf}{g:Nat}
theorem MatAt.lt(k:MatAt h mb ab az bv u g):∀b∈z1e6 mb ab az bv,b<h.next:=by
 intro b hb
 rcases List.mem_cons.1 hb with hb|hb
 ·rw [hb]
  exact k.hmb
 rcases List.mem_append.1 hb with hb|hb
 ·exact k.buf.lt b hb
 rcases List.mem_cons.1 hb with hb|hb
 ·rw [hb]
  exact k.arms.hab
 ·exact k.arms.lt b hb
theorem MatAt.tch{S:List Nat}(k:MatAt h mb ab az bv u g)(t:Tch S h h')(hS:∀b∈z1e6 mb ab az bv,b ∉ S)(hn:∀a∈az,a.nb ∉ S):MatAt h' mb ab az bv u g:=by
 obtain⟨k1,k2,k3,k4,k5,k6,k7,k8⟩:=k;refine⟨k1.tch t k2 (hS mb List.mem_cons_self),Nat.lt_of_lt_of_le k2 t.1,k3.tch t (hS ab ?_) hn (fun b hb=>hS b ?_),k4.tch t (fun b hb=>hS b ?_),k5,k6,k7,k8⟩
 ·exact List.mem_cons_of_mem _ (List.mem_append_right _ List.mem_cons_self)
 ·exact List.mem_cons_of_mem _ (List.mem_append_right _ (List.mem_cons_of_mem _ hb))
 ·exact List.mem_cons_of_mem _ (List.mem_append_left _ hb)
theorem armB{b:Nat}(hb:b∈ab::z5a az):b∈z1e6 mb ab az bv:=List.mem_cons_of_mem _ (List.mem_append_right _ hb)
theorem bufB{b:Nat}(hb:b∈zd7 bv):b∈z1e6 mb ab az bv:=List.mem_cons_of_mem _ (List.mem_append_left _ hb)
theorem matB{b:Nat}(hb:b∈[mb]):b∈z1e6 mb ab az bv:=by rw[List.mem_singleton.1 hb];exact List.mem_cons_self
end
theorem idx_sl1{b m i:Nat}(h:i<m):z171 1 (.sl b 0 m 1) (i:Int)=some (.ptr b (0+i*1)):=by
 have e:Nat.blt i m=true:=by simpa using h
 show (match Nat.blt i m with|true=>some (AV.ptr b (0+i*1))|false=>none)=_;rw[e]
theorem buf_shift{u:zf}{rest:List AV}{m c0:Nat}(hu:u.length=m+1)(hc0:c0<256):(laid (z82 u++rest) 0 (z82 (u.drop 1))).set (0+m*1) (.int .u8 (c0:Int))=z82 (u.drop 1++[UInt8.ofNat c0])++rest:=by
 have h1:(z82 (u.drop 1)).length=m:=by rw[ze1,List.length_drop];omega
 have h2:(z82 u).length=m+1:=by rw[ze1,hu]
 unfold laid;rw[List.take_zero,List.nil_append,h1,Nat.zero_add,Nat.zero_add,Nat.mul_one,List.drop_append_of_le_length (by omega),List.set_append_right _ _ (by omega),h1,Nat.sub_self]
 obtain⟨x,hx⟩:∃x,(z82 u).drop m=[x]:=by
  have:=List.drop_eq_getElem_cons (l:=z82 u) (i:=m) (by omega);have e0:(z82 u).drop (m+1)=[]:=List.drop_of_length_le (by omega);rw[e0] at this;exact⟨_,this⟩
 rw[hx,z23b];show z82 (u.drop 1)++(AV.int .u8 (c0:Int)::rest)=z82 (u.drop 1)++[AV.int .u8 ((UInt8.ofNat c0).toNat:Int)]++rest;rw[UInt8.toNat_ofNat_of_lt' hc0,List.append_assoc];rfl
def z203(u:zf)(c:UInt8):zf:=if u.length<256 then u++[c] else u.drop 1++[c]
def z128(u:zf)(g:Nat):Nat:=if u.length<256 then g else g+1
def z473(u:zf)(g:Nat)(A:List z331):List z331:=if u.length<256 then A else A.map (z3f6 (g+1))
section
variable {n d mb ab g byte:Nat}{h:AHeap}{az:List ArmT}{bv:AV}{u:zf}
theorem keep_r(hn:1000000<n)(hby:byte<256)(k:MatAt h mb ab az bv u g)(hu:u.length≤256)(hlive:u.length=256→∀a∈az,zd7 a.v≠[])(hB:z2fa 90001 az)(hg:g+u.length<90000)(hx:h.ex=[]):
  ∃h' az' bv',world n (d+3) 34 [.ptr mb 0,.int .u8 (byte:Int)] h=some (.ret (.tup []),h')∧MatAt h' mb ab az' bv' (z203 u (UInt8.ofNat byte)) (z128 u g)∧az'.map z112=z473 u g (az.map z112)∧az'.map (·.nb)=az.map (·.nb)∧(∀b∈z1e6 mb ab az' bv',b∈z1e6 mb ab az bv∨h.next≤b)∧Tch (z1e6 mb ab az bv) h h'∧∀B,z2fa B az→z2fa B az':=by
 suffices hK:Wp (world n (d+3) 34 [.ptr mb 0,.int .u8 (byte:Int)] h) fun r h'=>∃az' bv',r=.ret (.tup [])∧MatAt h' mb ab az' bv' (z203 u (UInt8.ofNat byte)) (z128 u g)∧az'.map z112=z473 u g (az.map z112)∧az'.map (·.nb)=az.map (·.nb)∧(∀b∈z1e6 mb ab az' bv',b∈z1e6 mb ab az bv∨h.next≤b)∧Tch (z1e6 mb ab az bv) h h'∧∀B,z2fa B az→z2fa B az' by
  obtain⟨_,h',e,az',bv',rfl,k⟩:=hK;exact⟨h',az',bv',e,k⟩
 obtain⟨k1,k2,k3,k4,k5,k6,k7,k8⟩:=id k;rw[z1e1];unfold z79;have c1:=y5 k1 (show (matC ab az.length bv g)[1]? =some bv from rfl);refine Wp.obind (z11 _ _) (Wp.obind (z9 _ _ _) (Wp.obind c1 (Wp.obind k4.len ?_)))
 ((with_reducible refine Wp.lett ?_))
 by_cases h256:u.length<256
 ·refine y8 (by rw [decide_eq_true_eq]; omega) ?_
  refine Wp.obind (z11 _ _) (Wp.obind (z9 _ _ _) (Wp.obind c1 ?_));refine y2f (Mem.nil [] h) (bldSlBy _ _) rfl (by rw[hx];rfl) fun h2 M2=>?_;have t2:=M2.tch;obtain⟨h3,e3,kb3,hlt3,t3⟩:=(k4.tch t2 (fun _ _=>by simp)).push M2.at0.1 hby (by omega) (by rw[t2.2.1,hx]);refine Wp.outK e3 ?_;refine Wp.obind (z11 _ _) (Wp.obind (z9 _ _ _) ?_);show Wp (Abs.obind (z15 h3 1 [AV.sl h2.next 0 (u.length+1) 1] (.ptr mb (0+1))) _) _;have n2:=t2.1;have hmbS:mb ∉ zd7 bv:=fun hb=>(k7 mb hb).1 rfl;have t03:Tch (zd7 bv) h h3:=(t2.mono fun b hb=>nomatch hb).trans t3;refine Wp.st1 (k1.tch t03 k2 hmbS) (show 0+1<3 by decide) rfl fun h4 k4' t4 n4=>?_;have hlt:=k.lt;have t04:Tch (mb::zd7 bv) h h4:=(t03.mono fun b hb=>.inl (List.mem_cons_of_mem _ hb)).trans (t4.mono fun b hb=>.inl (by rw[List.mem_singleton.1 hb];exact List.mem_cons_self))
  have arms4:ArmsAt h4 ab az:=k3.tch t04 (fun hb=>by
   rcases List.mem_cons.1 hb with hb|hb
   ·exact k5 (hb▸List.mem_cons_self)
   ·exact(k7 _ hb).2.1 List.mem_cons_self) (fun a ha hb=>by
   rcases List.mem_cons.1 hb with hb|hb
   ·exact k6 a ha hb
   ·exact(k7 _ hb).2.2 a ha rfl) (fun b hb' hb=>by
   rcases List.mem_cons.1 hb with hb|hb
   ·exact k5 (hb▸List.mem_cons_of_mem _ hb')
   ·exact(k7 _ hb).2.1 (List.mem_cons_of_mem _ hb'))
  have hab:=k3.hab;have e1:z203 u (UInt8.ofNat byte)=u++[UInt8.ofNat byte]:=if_pos h256;have e2:z128 u g=g:=if_pos h256;have e3:z473 u g (az.map z112)=az.map z112:=if_pos h256;rw[e1,e2,e3];refine Wp.ret ⟨az,.sl h2.next 0 (u.length+1) 1,rfl,⟨k4',by omega,arms4,kb3.tch t4 (fun b hb hm=>?_),k5,k6,fun b hb=>?_,k8⟩,rfl,rfl,fun b hb=>?_,t04.mono fun b hb=>.inl ?_,fun _ h=>h⟩
  ·have h1 := List.mem_singleton.1 hb
   have h2:=List.mem_singleton.1 hm;omega
  ·have hb := List.mem_singleton.1 hb
   subst hb;refine⟨by omega,fun hm=>?_,fun a ha e=>?_⟩
   ·have := hlt _ (armB (mb := mb) (bv := bv) hm)
    omega
   ·have := (k3.net a ha).2.2
    omega
  ·rcases List.mem_cons.1 hb with hb | hb
   ·exact .inl (by rw[hb];exact List.mem_cons_self)
   rcases List.mem_append.1 hb with hb|hb
   ·right
    rw[List.mem_singleton.1 hb];exact n2
   ·exact .inl (armB hb)
  ·rcases List.mem_cons.1 hb with hb | hb
   ·rw [hb]
    exact List.mem_cons_self
   ·exact bufB hb
 ·have hul : u.length = 255 + 1 := by omega
  refine y6 (by rw[decide_eq_false_iff_not];omega) ?_
  rcases k4 with⟨rfl,rfl⟩|⟨c,rest,rfl,kc,hc⟩
  ·cases hul
  obtain⟨b1,b2,b3⟩:=k7 c (List.mem_singleton.2 rfl);have he:Abs.elemOf Tryd.prog TBy=some 5:=by kernel_rfl
  have hi:(Tryd.prog.info? 5).isSome=true:=by kernel_rfl
  have hsz:Tryd.prog.cellsOf 5=1:=by kernel_rfl
  have hbl:=ze1 u;have s1:=z24b (P:=Tryd.prog) (h:=h) (b:=c) (o:=0) (m:=u.length) (l1:=1) (k1:=.i64) he hi hsz (by omega) (by omega)
  have ecp:((z82 u++rest).drop (1*1)).take ((u.length - 1)*1)=z82 (u.drop 1):=by
   rw[List.drop_append_of_le_length (by omega),Nat.mul_one,z407];exact List.take_left' (by rw[ze1,List.length_drop,Nat.mul_one])
  obtain⟨h2,e2,q2,n2,t2⟩:=z3b9 (m:=u.length) (j:=1) he hi hsz kc (by rw[List.length_append];omega) (by omega) (by rw[ecp];exact z48b _);rw[ecp] at q2;have hmc:mb≠c:=fun e=>b1 e.symm;have row2:=k1.tch t2 k2 (by simpa using hmc);have d1:=y5 row2 (show (matC ab az.length (.sl c 0 u.length 1) g)[1]? =some (.sl c 0 u.length 1) from rfl);refine Wp.obind (z11 _ _) (Wp.obind (z9 _ _ _) (Wp.obind c1 (Wp.obind (z11 _ _) (Wp.obind (z9 _ _ _) (Wp.obind c1 (Wp.outK s1 (Wp.outK e2 (Wp.obind (z4 _ _) ?_))))))));refine Wp.obind (z11 _ _) (Wp.obind (z9 _ _ _) (Wp.obind d1 (Wp.obind (z11 _ _) (Wp.obind (z9 _ _ _) (Wp.obind d1 (Wp.obind (show z15f (.sl c 0 u.length 1)=some (u.length:Int) from rfl) ?_))))))
  (((with_reducible refine ye ?_ ?_ ?_);omega;omega))
  have i1:=idx_sl1 (b:=c) (m:=u.length) (i:=255) (by omega);rw[show ((255:Nat):Int)=(u.length:Int) - 1 by omega] at i1;refine Wp.obind i1 ?_
  have hll:255<(laid (z82 u++rest) 0 (z82 (u.drop 1))).length:=by
   rw[z11d (by rw[ze1,List.length_drop,List.length_append];omega),List.length_append];omega
  refine Wp.st1 q2 (by omega) rfl fun h3 q3 t3 n3=>?_;rw[buf_shift hul hby] at q3;have row3:=row2.tch t3 (by omega) (by simpa using hmc);have d2:=y5 row3 (show (matC ab az.length (.sl c 0 u.length 1) g)[2]? =some (.int .i64 (g:Int)) from rfl);refine Wp.obind (z11 _ _) (Wp.obind (z9 _ _ _) (Wp.obind d2 (Wp.obind (z4 _ _) ?_)))
  (((with_reducible refine ye ?_ ?_ ?_);omega;omega))
  refine Wp.obind (z11 _ _) (Wp.obind (z9 _ _ _) ?_);refine Wp.st1 row3 (show 0+2<3 by decide) rfl fun h4 row4 t4 n4=>?_;have eg:(g:Int)+1=((g+1:Nat):Int):=by omega
  rw[eg] at row4;have row4':RowH h4 mb TMat [.sl ab 0 az.length 2,.sl c 0 u.length 1,.int .i64 ((g+1:Nat):Int)]:=row4;have d3:=y5 row4' (show ([.sl ab 0 az.length 2,.sl c 0 u.length 1,.int .i64 ((g+1:Nat):Int)]:List AV)[0]? =some (.sl ab 0 az.length 2) from rfl);refine Wp.obind (z11 _ _) (Wp.obind (z9 _ _ _) (Wp.obind d3 (Wp.obind (show z15f (.sl ab 0 az.length 2)=some (az.length:Int) from rfl) ?_)));refine y1e fun k60 ek=>?_;have t23:Tch [c] h h3:=t2.trans t3;have t04:Tch [mb,c] h h4:=(t23.mono fun b hb=>.inl (by rw[List.mem_singleton.1 hb];simp)).trans (t4.mono fun b hb=>.inl (by rw[List.mem_singleton.1 hb];simp))
  have two:∀{b},b∈[mb,c]→b=mb∨b=c:=fun hb=>by
   rcases List.mem_cons.1 hb with hb|hb
   ·exact .inl hb
   ·exact .inr (List.mem_singleton.1 hb)
  have arms4:ArmsAt h4 ab az:=k3.tch t04 (fun hb=>by
   rcases two hb with hb|hb
   ·exact k5 (hb▸List.mem_cons_self)
   ·exact b2 (hb▸List.mem_cons_self)) (fun a ha hb=>by
   rcases two hb with hb|hb
   ·exact k6 a ha hb
   ·exact b3 a ha hb) (fun b hb' hb=>by
   rcases two hb with hb|hb
   ·exact k5 (hb▸List.mem_cons_of_mem _ hb')
   ·exact b2 (hb▸List.mem_cons_of_mem _ hb'))
  refine z3a3 (n:=n) (d:=d) (L:=az.length) (f:=g+1) hn k8 az [] n h4 (by omega) (by simp) arms4 row4' (by omega) k5 hB (hlive (by omega)) fun H' R' s=>?_;obtain⟨w1,w2,w3,w4,w5,w6,w7,w8⟩:=s;rw[List.nil_append] at w1 w3 w6;rw[List.nil_append] at w6;rw[ek]
  have hlR:R'.length=az.length:=by
   have:=congrArg List.length w5;rw[List.length_map,List.length_map] at this;exact this
  have nbR:∀a∈R',∃w∈az,w.nb=a.nb:=fun a ha=>by
   have:a.nb∈R'.map (·.nb):=List.mem_map_of_mem ha;rw[w5] at this;exact List.mem_map.1 this
  have sub:∀b∈ab::z5a R',b∈ab::z5a az:=fun b hb=>by
   rcases List.mem_cons.1 hb with hb|hb
   ·rw [hb]
    exact List.mem_cons_self
   ·exact List.mem_cons_of_mem _ (w6 b hb)
  have hcl:c<h4.next:=by omega
  have kc4:=(q3.tch t4 (by omega) (by simpa using hmc.symm)).tch w1 hcl b2;have e1:z203 u (UInt8.ofNat byte)=u.drop 1++[UInt8.ofNat byte]:=if_neg h256;have e2:z128 u g=g+1:=if_neg h256;have e3:z473 u g (az.map z112)=(az.map z112).map (z3f6 (g+1)):=if_neg h256;have eul:(u.drop 1++[UInt8.ofNat byte]).length=u.length:=by rw[List.length_append,List.length_singleton,List.length_drop];omega
  rw[e1,e2,e3];refine Wp.ret ⟨R',.sl c 0 u.length 1,rfl,⟨?_,by omega,w3,.inr ⟨c,rest,by rw[eul],kc4,by omega⟩,fun hb=>k5 (sub _ hb),fun a ha e=>?_,fun b hb=>?_,by omega⟩,w4,w5,fun b hb=>?_,?_,w7⟩
  ·rw [hlR]
   exact row4'.tch w1 (by omega) k5
  ·obtain ⟨w, hw, e'⟩ := nbR a ha
   exact k6 w hw (e'.trans e)
  ·have hb := List.mem_singleton.1 hb
   subst hb;refine⟨b1,fun hm=>b2 (sub _ hm),fun a ha e=>?_⟩;obtain⟨w,hw,e'⟩:=nbR a ha;exact b3 w hw (e'.trans e)
  ·left
   rcases List.mem_cons.1 hb with hb|hb
   ·rw [hb]
    exact List.mem_cons_self
   rcases List.mem_append.1 hb with hb|hb
   ·exact bufB hb
   ·exact armB (sub b hb)
  ·refine (t04.mono fun b hb => .inl ?_).trans (w1.mono fun b hb => .inl (armB hb))
   rcases two hb with hb|hb
   ·rw [hb]
    exact List.mem_cons_self
   ·rw [hb]
    exact bufB (List.mem_singleton.2 rfl)
theorem empty_r(hn:1000000<n)(k:MatAt h mb ab az bv u g):
  ∃h' az' bv',world n (d+2) 35 [.ptr mb 0] h=some (.ret (.tup []),h')∧MatAt h' mb ab az' bv' [] 0∧az'.map z112=(az.map z112).map z3b5∧az'.map (·.nb)=az.map (·.nb)∧(∀b∈z1e6 mb ab az' bv',b∈z1e6 mb ab az bv)∧h'.next=h.next∧Tch (z1e6 mb ab az bv) h h':=by
 suffices hK:Wp (world n (d+2) 35 [.ptr mb 0] h) fun r h'=>∃az' bv',r=.ret (.tup [])∧MatAt h' mb ab az' bv' [] 0∧az'.map z112=(az.map z112).map z3b5∧az'.map (·.nb)=az.map (·.nb)∧(∀b∈z1e6 mb ab az' bv',b∈z1e6 mb ab az bv)∧h'.next=h.next∧Tch (z1e6 mb ab az bv) h h' by
  obtain⟨_,h',e,az',bv',rfl,k⟩:=hK;exact⟨h',az',bv',e,k⟩
 obtain⟨k1,k2,k3,k4,k5,k6,k7,k8⟩:=id k;rw[z1b0];unfold z6a;have c1:=y5 k1 (show (matC ab az.length bv g)[1]? =some bv from rfl)
 obtain⟨v8,s1,hb8,kb8,hc8⟩:∃v8,zbb Tryd.prog h TBy bv none (some (.int .i64 ((0:Nat):Int)))=some (.val v8,h)∧zd7 v8=zd7 bv∧BufAt h v8 []∧v8.one=true∧AV.cells v8=[v8]:=by
  rcases k4 with⟨rfl,rfl⟩|⟨c,rest,rfl,kc,hc⟩
  ·exact⟨.nsl,by kernel_rfl,rfl,.inl ⟨rfl,rfl⟩,rfl,rfl⟩
  ·exact⟨.sl c 0 0 1,z419 (P:=Tryd.prog) (e:=5) (k1:=.i64) (by kernel_rfl) (by kernel_rfl) (by kernel_rfl) (Nat.zero_le _),rfl,.inr ⟨c,z82 u++rest,rfl,kc,hc⟩,rfl,rfl⟩
 refine Wp.obind (z11 _ _) (Wp.obind (z9 _ _ _) (Wp.obind c1 (Wp.outK s1 (Wp.obind (z11 _ _) (Wp.obind (z9 _ _ _) ?_)))));rw[hc8.2];refine Wp.st1 k1 (show 0+1<3 by decide) hc8.1 fun h2 r2 t2 n2=>?_;refine Wp.obind (z11 _ _) (Wp.obind (z9 _ _ _) ?_);refine Wp.st1 r2 (show 0+2<3 by decide) rfl fun h3 r3 t3 n3=>?_;have r3':RowH h3 mb TMat [.sl ab 0 az.length 2,v8,.int .i64 ((0:Nat):Int)]:=r3;have d3:=y5 r3' (show ([.sl ab 0 az.length 2,v8,.int .i64 ((0:Nat):Int)]:List AV)[0]? =some (.sl ab 0 az.length 2) from rfl);refine Wp.obind (z11 _ _) (Wp.obind (z9 _ _ _) (Wp.obind d3 (Wp.obind (show z15f (.sl ab 0 az.length 2)=some (az.length:Int) from rfl) ?_)));refine y1e fun k22 ek=>?_;have t03:Tch [mb] h h3:=t2.trans t3;have arms3:ArmsAt h3 ab az:=k3.tch t03 (fun hb=>k5 (List.mem_singleton.1 hb▸List.mem_cons_self)) (fun a ha hb=>k6 a ha (List.mem_singleton.1 hb)) (fun b hb' hb=>k5 (List.mem_singleton.1 hb▸List.mem_cons_of_mem _ hb'));refine z321 (n:=n) (d:=d) (L:=az.length) (f:=0) k8 az [] n h3 (by omega) (by simp) arms3 r3' (by omega) k5 fun H' R' s=>?_;obtain⟨w1,w2,w3,w4,w5,w6,w7,w8⟩:=s;rw[List.nil_append] at w1 w3 w6;rw[List.nil_append] at w6;rw[ek]
 have hlR:R'.length=az.length:=by
  have:=congrArg List.length w5;rw[List.length_map,List.length_map] at this;exact this
 have nbR:∀a∈R',∃w∈az,w.nb=a.nb:=fun a ha=>by
  have:a.nb∈R'.map (·.nb):=List.mem_map_of_mem ha;rw[w5] at this;exact List.mem_map.1 this
 have sub:∀b∈ab::z5a R',b∈ab::z5a az:=fun b hb=>by
  rcases List.mem_cons.1 hb with hb|hb
  ·rw [hb]
   exact List.mem_cons_self
  ·exact List.mem_cons_of_mem _ (w6 b hb)
 have kb3:=kb8.tch t03 (fun b hb hm=>by
  rw[hb8] at hb;exact(k7 b hb).1 (List.mem_singleton.1 hm))
 refine Wp.ret ⟨R',v8,rfl,⟨?_,by omega,w3,kb3.tch w1 (fun b hb=>by rw[hb8] at hb;exact(k7 b hb).2.1),fun hb=>k5 (sub _ hb),fun a ha e=>?_,fun b hb=>?_,by omega⟩,w4,w5,fun b hb=>?_,by omega,?_⟩
 ·rw [hlR]
  exact r3'.tch w1 (by omega) k5
 ·obtain ⟨w, hw, e'⟩ := nbR a ha
  exact k6 w hw (e'.trans e)
 ·rw [hb8] at hb
  obtain⟨b1,b2,b3⟩:=k7 b hb;refine⟨b1,fun hm=>b2 (sub _ hm),fun a ha e=>?_⟩;obtain⟨w,hw,e'⟩:=nbR a ha;exact b3 w hw (e'.trans e)
 ·rcases List.mem_cons.1 hb with hb | hb
  ·rw [hb]
   exact List.mem_cons_self
  rcases List.mem_append.1 hb with hb|hb
  ·rw [hb8] at hb
   exact bufB hb
  ·exact armB (sub b hb)
 ·exact(t03.mono fun b hb=>.inl (matB hb)).trans (w1.mono fun b hb=>.inl (armB hb))
end
abbrev MS:=List z331×zf×Nat
def z72(m:MS)(c:UInt8):MS:=(z473 m.2.1 m.2.2 m.1,z203 m.2.1 c,z128 m.2.1 m.2.2)
def atM(m:MS):Nat:=m.2.2+m.2.1.length - 1
def z157:MS→zf→Nat→Nat×Option (Nat×Int×Nat)×MS
 |m,[],i=>(i,none,m)
 |m,c::s,i=>match (z4d c.toNat (atM (z72 m c)) (z72 m c).1).1 with
  |some z=>(i+1,some (z.1,(z.2:Int) - ((z72 m c).2.2:Int),(z72 m c).2.1.length),((z4d c.toNat (atM (z72 m c)) (z72 m c).1).2.map z3b5,[],0))
  |none=>z157 ((z4d c.toNat (atM (z72 m c)) (z72 m c).1).2,(z72 m c).2.1,(z72 m c).2.2) s (i+1)
noncomputable def feedC:Option (Nat×Int×Nat)→List AV
 |some z=>[.int .i64 (z.1:Int),.int .i64 z.2.1,.int .i64 (z.2.2:Int)]
 |none=>[.int .i64 0,.int .i64 0,.int .i64 0]
theorem keepU_len{u:zf}{c:UInt8}(h:u.length≤256):(z203 u c).length≤256∧1≤(z203 u c).length:=by
 unfold z203
 split<;>rw[List.length_append,List.length_singleton]
 ·omega
 ·rw [List.length_drop]
  omega
theorem keepM_len{m:MS}{c:UInt8}(h:m.2.1.length≤256):(z72 m c).2.2+(z72 m c).2.1.length=m.2.2+m.2.1.length+1:=by
 show z128 m.2.1 m.2.2+(z203 m.2.1 c).length=_;unfold z128 z203
 split<;>rw[List.length_append,List.length_singleton]
 ·omega
 ·rw [List.length_drop]
  omega
theorem hitW_lt{N:Nt}{c B:Nat}:∀(l:List WayW) (a:Option Nat) (f:Nat),(∀x∈l,x.2<B)→(∀g,a=some g→g<B)→hitW N c a l=some f→f<B
 |[],a,f,_,ha,h=>ha f h
 |x::l,a,f,hl,ha,h=>by
  refine hitW_lt l (accW N c a x) f (fun y hy=>hl y (List.mem_cons_of_mem _ hy)) (fun g hg=>?_) h
  cases a with
  |some k=>exact ha g hg
  |none=>
   have hg:(if z132 N (stepN N x.1 c)=true then some x.2 else none)=some g:=hg
   split at hg
   ·cases hg
    exact hl x List.mem_cons_self
   ·cases hg
theorem z418{c B:Nat}:∀(A:List z331) (z:Nat×Nat),(∀a∈A,∀x∈a.2,x.2<B)→(z4d c B A).1=some z→z.2<B+1∧z.1<A.length
 |[],z,_,h=>by cases h
 |a::A,z,hA,h=>by
  rw[z4d] at h
  split at h
  ·rename_i f hf
   cases h;refine⟨hitW_lt _ none f (fun x hx=>?_) (fun g hg=>by cases hg) hf,Nat.succ_pos _⟩
   rcases List.mem_append.1 hx with hx|hx
   ·exact Nat.lt_succ_of_lt (hA a List.mem_cons_self x hx)
   ·rw [List.mem_singleton.1 hx]
    exact Nat.lt_succ_self _
  ·cases hr : (z4d c B A).1 with
   |none=>
    have h2:Option.map _ (z4d c B A).1=some z:=h;rw[hr] at h2;cases h2
   |some w=>
    have h2:Option.map _ (z4d c B A).1=some z:=h;rw[hr] at h2;cases h2;have:=z418 A w (fun a ha=>hA a (List.mem_cons_of_mem _ ha)) hr;exact⟨this.1,by show w.1+1<_;rw[List.length_cons];omega⟩
def MatS(h:AHeap)(mb ab:Nat)(S nbs:List Nat)(m:MS):Prop:=∃az bv,MatAt h mb ab az bv m.2.1 m.2.2∧az.map z112=m.1∧S=z1e6 mb ab az bv∧nbs=az.map (·.nb)∧m.2.1.length≤256∧z2fa (m.2.2+m.2.1.length) az∧(m.2.1≠[]→∀a∈az,zd7 a.v≠[])
section
variable {h h':AHeap}{mb ab:Nat}{S nbs:List Nat}{m:MS}
theorem MatS.tch{T:List Nat}(k:MatS h mb ab S nbs m)(t:Tch T h h')(hS:∀b∈S,b ∉ T)(hn:∀b∈nbs,b ∉ T):MatS h' mb ab S nbs m:=by
 obtain⟨az,bv,k1,k2,rfl,rfl,k5⟩:=k;exact⟨az,bv,k1.tch t hS (fun a ha=>hn _ (List.mem_map_of_mem ha)),k2,rfl,rfl,k5⟩
theorem MatS.lt(k:MatS h mb ab S nbs m):∀b∈S,b<h.next:=by
 obtain⟨az,bv,k1,k2,rfl,_⟩:=k;exact k1.lt
theorem MatS.tz(k:MatS h mb ab S nbs m)(hT:HasTz h):0 ∉ S:=by
 obtain⟨az,bv,k1,k2,rfl,_⟩:=k;intro hb
 rcases List.mem_cons.1 hb with hb|hb
 ·exact z248 hT k1.row hb
 rcases List.mem_append.1 hb with hb|hb
 ·rcases k1.buf with ⟨rfl, _⟩ | ⟨c, rest, rfl, kc, _⟩
  ·exact nomatch hb
  ·exact z248 hT kc (List.mem_singleton.1 hb)
 ·exact k1.arms.tz hT hb
end
set_option maxRecDepth 100000 in
theorem z3d9{h:AHeap}{b:Nat}(k:RowH h b z3c9 [.int .i64 0,.int .i64 0,.int .i64 0]):z3da h b z3c9 [.int .i64 0,.int .i64 0,.int .i64 0]=true:=by
 obtain⟨t,h1,h2⟩:=k;have e0:t.get 0=some (.int .i64 0):=h2 0 (by decide);have e1:t.get 1=some (.int .i64 0):=h2 1 (by decide);have e2:t.get 2=some (.int .i64 0):=h2 2 (by decide)
 have e3:t.take 0 3=some [.int .i64 0,.int .i64 0,.int .i64 0]:=by
  simp only[T.take,e0,e1,e2]
 unfold z3da;rw[h1];show (Nat.beq 3 3&&Nat.beq z3c9 z3c9&&z2a1 (t.take 0 3) _)=true;rw[e3];rfl
theorem eqMat(b o:Nat)(h:AHeap):zf6 Tryd.prog h .eql 31 true (some (.ptr b o)) (some AV.nilp)=some (.val (.bool false),h):=by kernel_rfl
section
variable {n d mb ab:Nat}{h:AHeap}{S nbs:List Nat}{s:zf}{m:MS}{Q:ARes→AHeap→Prop}{k16:AHeap→R}
theorem z3b4(hn:18446744073709551616<n)(hsl:s.length<80000):
  ∀(k i fu:Nat) (m:MS) (S:List Nat) (H:AHeap),k<fu→i+k=s.length→m.2.2+m.2.1.length+k<80000→MatS H mb ab S nbs m→HasTz H→H.ex=[]→RowH H h.next z3c9 [.int .i64 0,.int .i64 0,.int .i64 0]→h.next<H.next→h.next ∉ S→(∀b∈nbs,b≠h.next)→
   (∀H' S',(z157 m (s.drop i) i).2.1=none→MatS H' mb ab S' nbs (z157 m (s.drop i) i).2.2→Tch S H H'→(∀b∈S',b∈S∨H.next≤b)→(z157 m (s.drop i) i).1=s.length→Wp (k16 H') Q)→
   (∀H' S' z,(z157 m (s.drop i) i).2.1=some z→MatS H' mb ab S' nbs (z157 m (s.drop i) i).2.2→Tch (h.next::S) H H'→(∀b∈S',b∈S∨H.next≤b)→Q (.ret (.tup [.int .i64 ((z157 m (s.drop i) i).1:Int),.agg (feedC (some z)),.bool true])) H')→
   Wp (z71 (world n (d+5)) (.ptr mb 0) s h k16 fu (i:Int) H) Q
 |_,_,0,_,_,_,hf,_,_,_,_,_,_,_,_,_,_,_=>by omega
 |0,i,fu+1,m,S,H,hf,hm,hb,km,hT,hx,kh,hh,hS,hnb,hk,hq=>by
  have ll:=z7b s;rw[zb7];unfold z64
  repeat(first|(with_reducible refine Wp.lett ?_)|((with_reducible refine y6 ?_ ?_;apply decide_eq_false);omega))
  have e:s.drop i=[]:=List.drop_of_length_le (by omega);rw[e] at hk;exact hk H S rfl km (Tch.refl _ _) (fun b hb=>.inl hb) (by show i=_;omega)
 |k+1,i,fu+1,m,S,H,hf,hm,hb,km,hT,hx,kh,hh,hS,hnb,hk,hq=>by
  have ll:=z7b s;have hi:i<s.length:=by omega
  have hxs:=z28f hi;have el:(i:Int)+1=((i+1:Nat):Int):=by omega
  rw[List.drop_eq_getElem_cons hi] at hk hq
  generalize hc:s[i]=c at hk hq hxs
  have hcb:c.toNat<256:=c.toNat_lt;have hTS:=km.tz hT;obtain⟨az,bv,k1,k2,eS,eN,k5,k6,k7⟩:=km;subst eS
  obtain⟨h1,az1,bv1,e1,m1,a1,n1,s1,t1,b1⟩:=keep_r (n:=n) (d:=d+2) (by omega) hcb k1 k5 (fun e=>k7 (fun e0=>by rw[e0] at e;cases e)) (fun a ha=>by
   have:=k6 a ha;exact⟨by omega,fun x hx=>by have:=this.2 x hx;omega⟩) (by omega) hx
  rw[UInt8.ofNat_toNat] at m1;have hl1:=keepM_len (m:=m) (c:=c) k5;obtain⟨hu1,hu2⟩:=keepU_len (c:=c) k5
  have e2:z72 m c=(az1.map z112,z203 m.2.1 c,z128 m.2.1 m.2.2):=by
   show (z473 m.2.1 m.2.2 m.1,_,_)=_;rw[a1,k2]
  have hB1:z2fa (atM (z72 m c)) az1:=by
   have:atM (z72 m c)=m.2.2+m.2.1.length:=by
    unfold atM;omega
   rw[this];exact b1 _ k6
  have hat:((z128 m.2.1 m.2.2:Nat):Int)+((z203 m.2.1 c).length:Int) - 1=((atM (z72 m c):Nat):Int):=by
   unfold atM;show _=((z128 m.2.1 m.2.2+(z203 m.2.1 c).length - 1:Nat):Int);omega
  have hatl:atM (z72 m c)<80000:=by
   unfold atM;omega
  have kh1:=kh.tch t1 hh hS;have hh1:h.next<h1.next:=Nat.lt_of_lt_of_le hh t1.1;have hT1:=hT.tch t1 hTS;have hx1:h1.ex=[]:=by rw[t1.2.1,hx]
  have r1:=m1.row;have c2:=y5 r1 (show (matC ab az1.length bv1 (z128 m.2.1 m.2.2))[2]? =some (.int .i64 ((z128 m.2.1 m.2.2:Nat):Int)) from rfl);have c1:=y5 r1 (show (matC ab az1.length bv1 (z128 m.2.1 m.2.2))[1]? =some bv1 from rfl);have c0:=y5 r1 (show (matC ab az1.length bv1 (z128 m.2.1 m.2.2))[0]? =some (.sl ab 0 az1.length 2) from rfl)
  have hS1:∀b∈z1e6 mb ab az1 bv1,b≠h.next:=fun b hb e=>by
   rcases s1 b hb with hb|hb
   ·exact hS (e▸hb)
   ·omega
  have hnb1:∀a∈az1,a.nb≠h.next:=fun a ha=>hnb _ (by rw[eN, ←n1];exact List.mem_map_of_mem ha);rw[zb7];unfold z64
  ((with_reducible refine Wp.lett ?_))
  refine y8 (by rw[decide_eq_true_eq];omega) ?_;refine Wp.obind hxs (Wp.callN e1 (Wp.obind (z11 _ _) (Wp.obind (z9 _ _ _) (Wp.obind c2 (Wp.obind (z4 _ _) (Wp.obind (z11 _ _) (Wp.obind (z9 _ _ _) (Wp.obind c1 (Wp.obind m1.buf.len ?_)))))))))
  have hgk:z128 m.2.1 m.2.2≤m.2.2+1:=by
   unfold z128
   split<;>omega
  (((with_reducible refine ye ?_ ?_ ?_);omega;omega))
  (((with_reducible refine ye ?_ ?_ ?_);omega;omega))
  rw[hat];refine Wp.obind (z11 _ _) (Wp.obind (z9 _ _ _) (Wp.obind c0 (Wp.obind hxs ?_)));refine y9 (Mem.nil [] h1) fun h2 M2=>?_;have t2:=M2.tch;have q2:=M2.at0.1;have hq2:=M2.at0.2.1;have arms2:=m1.arms.tch t2 (by simp) (fun _ _=>by simp) (fun _ _=>by simp);obtain⟨h3,R',e3,t3,k3,b3,a3,n3,s3,w3⟩:=z270 (n:=n) (d:=d) (byte:=c.toNat) (at_:=atM (z72 m c)) hn hcb (by omega) m1.len arms2 hB1 (hT1.tch t2 (by simp)) (by rw[t2.2.1,hx1]);refine Wp.callN e3 ?_
  have hqS:h1.next ∉ ab::z5a az1:=fun hb=>by
   have:=m1.lt _ (armB (mb:=mb) (bv:=bv1) hb);omega
  have q3:=q2.tch t3 hq2 hqS;refine Wp.chk (z268 (z3d9 q3) rfl) ?_;refine Wp.obind (z17d _ _) (Wp.obind (z12 _) (Wp.obind (z17c _ _ _) (Wp.obind (z5 _) ?_)));rw[z10];have hfl:∀r,(z475 0 (atM (z72 m c)) r).length=3∧(z475 0 (atM (z72 m c)) r).all AV.one=true:=fun r=>by cases r<;>exact⟨rfl,rfl⟩
  have hq3:h1.next<h3.next:=Nat.lt_of_lt_of_le hq2 t3.1;refine Wp.stAll q3 (hfl _).1 rfl (hfl _).2 fun h4 q4 t4 n4=>?_
  -- the matcher behind the step
  have n12:=t2.1;have n23:=t3.1;have lt1:=m1.lt
  have nbR:∀a∈R',∃w∈az1,w.nb=a.nb:=fun a ha=>by
   have:a.nb∈R'.map (·.nb):=List.mem_map_of_mem ha;rw[n3] at this;exact List.mem_map.1 this
  have hlR:R'.length=az1.length:=by
   have:=congrArg List.length n3;rw[List.length_map,List.length_map] at this;exact this
  have sub3:∀b∈ab::z5a R',b∈ab::z5a az1∨h2.next≤b:=fun b hb=>by
   rcases List.mem_cons.1 hb with hb|hb
   ·rw [hb]
    exact .inl List.mem_cons_self
   ·exact(s3 b hb).imp (fun h=>List.mem_cons_of_mem _ h) id
  have t14:Tch (ab::z5a az1) h1 h4:=((t2.mono fun b hb=>nomatch hb).trans t3).trans' t4 fun b hb=>by
   rw[List.mem_singleton.1 hb];exact .inr (Nat.le_refl _)
  have m4:MatAt h4 mb ab R' bv1 (z203 m.2.1 c) (z128 m.2.1 m.2.2):=by
   refine⟨?_,Nat.lt_of_lt_of_le m1.hmb t14.1,k3.tch t4 ?_ (fun a ha hm=>?_) (fun b hb hm=>?_),m1.buf.tch t14 (fun b hb=>(m1.b1 b hb).2.1),fun hb=>?_,fun a ha e=>?_,fun b hb=>?_,?_⟩
   ·rw [hlR]
    exact r1.tch t14 m1.hmb m1.m1
   ·intro hm
    have:=m1.arms.hab;have:=List.mem_singleton.1 hm;omega
   ·obtain ⟨w, hw, e⟩ := nbR a ha
    have:=(m1.arms.net w hw).2.2;have:=List.mem_singleton.1 hm;omega
   ·have hm := List.mem_singleton.1 hm
    rcases s3 b hb with hb|hb
    ·have := lt1 b (armB (List.mem_cons_of_mem _ hb))
     omega
    ·omega
   ·rcases sub3 _ hb with hb | hb
    ·exact m1.m1 hb
    ·have := m1.hmb
     omega
   ·obtain ⟨w, hw, e'⟩ := nbR a ha
    exact m1.m3 w hw (e'.trans e)
   ·obtain ⟨p1, p2, p3⟩ := m1.b1 b hb
    refine⟨p1,fun hm=>?_,fun a ha e=>?_⟩
    ·rcases sub3 _ hm with hm | hm
     ·exact p2 hm
     ·have := lt1 b (bufB hb)
      omega
    ·obtain ⟨w, hw, e'⟩ := nbR a ha
     exact p3 w hw (e'.trans e)
   ·rw [hlR]
    exact m1.len
  have subM:∀b∈z1e6 mb ab R' bv1,b∈z1e6 mb ab az1 bv1∨h1.next≤b:=fun b hb=>by
   rcases List.mem_cons.1 hb with hb|hb
   ·exact .inl (by rw[hb];exact List.mem_cons_self)
   rcases List.mem_append.1 hb with hb|hb
   ·exact .inl (bufB hb)
   ·exact(sub3 b hb).imp armB (fun h=>by omega)
  have tA:Tch (z1e6 mb ab az bv) H h4:=t1.trans' t14 fun b hb=>s1 b (armB hb);have hle:H.next≤h1.next:=t1.1
  have subA:∀b∈z1e6 mb ab R' bv1,b∈z1e6 mb ab az bv∨H.next≤b:=fun b hb=>by
   rcases subM b hb with hb|hb
   ·exact s1 b hb
   ·exact .inr (by omega)
  have hph:h.next<h4.next:=by
   have:=t14.1;omega
  have hpS:h.next ∉ z1e6 mb ab R' bv1:=fun hb=>by
   rcases subA _ hb with hb|hb
   ·exact hS hb
   ·omega
  have kh4:RowH h4 h.next z3c9 [.int .i64 0,.int .i64 0,.int .i64 0]:=kh1.tch t14 hh1 fun hb=>hS1 _ (armB hb) rfl;have hT4:HasTz h4:=hT1.tch t14 (m1.arms.tz hT1);have nbs1:nbs=R'.map (·.nb):=by rw[eN,n3,n1]
  cases hz:(z4d c.toNat (atM (z72 m c)) (az1.map z112)).1 with
  |some z=>
   rw[hz] at q4;refine y8 rfl ?_
   have hzb:=z418 (c:=c.toNat) (B:=atM (z72 m c)) (az1.map z112) z (fun a ha x hx=>by
    obtain⟨y,hy,rfl⟩:=List.mem_map.1 ha;obtain⟨w,hw,rfl⟩:=List.mem_map.1 hx;exact(hB1 y hy).2 w hw) hz
   have r4:=m4.row;have c24:=y5 r4 (show (matC ab R'.length bv1 (z128 m.2.1 m.2.2))[2]? =some (.int .i64 ((z128 m.2.1 m.2.2:Nat):Int)) from rfl)
   have hqm:h1.next≠mb:=by
    have:=m1.hmb;omega
   have hz2:=hzb.1;refine Wp.obind (y5 q4 (show (z475 0 (atM (z72 m c)) (some z))[1]? =some (.int .i64 (z.2:Int)) from rfl)) ?_;refine Wp.obind (z4 _ _) (Wp.obind (z11 _ _) (Wp.obind (z9 _ _ _) (Wp.obind c24 (Wp.obind (z4 _ _) ?_))))
   (((with_reducible refine ye ?_ ?_ ?_);omega;omega))
   refine Wp.st1 q4 (show 1<3 by decide) rfl fun h5 q5 t5 n5=>?_;have r5:=r4.tch t5 m4.hmb (by simpa using hqm.symm);have c25:=y5 r5 (show (matC ab R'.length bv1 (z128 m.2.1 m.2.2))[2]? =some (.int .i64 ((z128 m.2.1 m.2.2:Nat):Int)) from rfl);refine Wp.obind (y5 q5 (show ((z475 0 (atM (z72 m c)) (some z)).set 1 _)[2]? =some (.int .i64 ((atM (z72 m c):Int)+1)) from rfl)) ?_;refine Wp.obind (z4 _ _) (Wp.obind (z11 _ _) (Wp.obind (z9 _ _ _) (Wp.obind c25 (Wp.obind (z4 _ _) ?_))))
   (((with_reducible refine ye ?_ ?_ ?_);omega;omega))
   refine Wp.st1 q5 (show 2<3 by decide) rfl fun h6 q6 t6 n6=>?_;have t46:Tch [h1.next] h4 h6:=t5.trans t6
   have hq1:h1.next ∉ z1e6 mb ab R' bv1:=fun hb=>by
    rcases subM _ hb with hb|hb
    ·have := lt1 _ hb
     omega
    ·rcases List.mem_cons.1 ‹h1.next ∈ z1e6 mb ab R' bv1› with hb | hb
     ·exact hqm hb
     rcases List.mem_append.1 hb with hb|hb
     ·have := lt1 _ (bufB hb)
      omega
     ·rcases sub3 _ hb with hb | hb
      ·exact hqS hb
      ·omega
   have m6:=m4.tch t46 (fun b hb hm=>hq1 (List.mem_singleton.1 hm▸hb)) (fun a ha hm=>by
    obtain⟨w,hw,e⟩:=nbR a ha;have:=(m1.arms.net w hw).2.2;have:=List.mem_singleton.1 hm;omega)
   obtain⟨h7,az7,bv7,e7,m7,a7,n7,s7,nn7,t7⟩:=empty_r (n:=n) (d:=d+3) (by omega) m6;refine Wp.callN e7 ?_
   (((with_reducible refine ye ?_ ?_ ?_);omega;omega))
   have hq6:h1.next<h6.next:=by omega
   have q7:=q6.tch t7 hq6 hq1;refine Wp.obind (y12 q7 rfl) ?_;rw[z10];have kh7:=((kh4.tch t46 hph (by simpa using (show h.next≠h1.next by omega))).tch t7 (by omega) hpS);refine Wp.stAll kh7 rfl rfl rfl fun h8 q8 t8 n8=>?_;refine Wp.obind (y12 q8 rfl) ?_
   have hfd:z157 m (c::s.drop (i+1)) i=(i+1,some (z.1,(z.2:Int) - ((z72 m c).2.2:Int),(z72 m c).2.1.length),((z4d c.toNat (atM (z72 m c)) (z72 m c).1).2.map z3b5,[],0)):=by
    rw[z157,show (z72 m c).1=az1.map z112 by rw[e2],hz]
   have hS7:∀b∈z1e6 mb ab az7 bv7,b≠h.next:=fun b hb e=>hpS (e▸s7 b hb)
   have m8:=m7.tch t8 (fun b hb hm=>hS7 b hb (List.mem_singleton.1 hm)) (fun a ha hm=>by
    have:a.nb∈az7.map (·.nb):=List.mem_map_of_mem ha;rw[n7,n3] at this;obtain⟨w,hw,e⟩:=List.mem_map.1 this;exact hnb1 w hw (e.trans (List.mem_singleton.1 hm)))
   have key:=hq h8 (z1e6 mb ab az7 bv7) (z.1,(z.2:Int) - ((z72 m c).2.2:Int),(z72 m c).2.1.length) (by rw[hfd]) (by
    rw[hfd];refine⟨az7,bv7,m8,?_,rfl,?_,Nat.zero_le _,fun a ha=>?_,fun h=>absurd rfl h⟩
    ·rw[a7,a3,e2]
    ·rw[nbs1,n7]
    ·have : z112 a ∈ az7.map z112 := List.mem_map_of_mem ha
     rw[a7] at this;obtain⟨w,_,e⟩:=List.mem_map.1 this;have e':([]:List WayW)=a.l.map (·.2):=congrArg Prod.snd e;have:a.l=[]:=List.map_eq_nil_iff.1 e'.symm;rw[this];exact⟨Nat.zero_le _,fun _ h=>nomatch h⟩) (by
    have tB:Tch (z1e6 mb ab az bv) H h7:=(tA.trans' t46 fun b hb=>by
     rw[List.mem_singleton.1 hb];exact .inr hle).trans' t7 subA
    exact(tB.mono fun b hb=>.inl (List.mem_cons_of_mem _ hb)).trans (t8.mono fun b hb=>.inl (by rw[List.mem_singleton.1 hb];exact List.mem_cons_self))) (fun b hb=>subA b (s7 b hb))
   rw[hfd] at key
   have ev:(((z475 0 (atM (z72 m c)) (some z)).set 1 (.int .i64 ((z.2:Int) - ((z128 m.2.1 m.2.2:Nat):Int)))).set 2 (.int .i64 ((atM (z72 m c):Int)+1 - ((z128 m.2.1 m.2.2:Nat):Int))))=feedC (some (z.1,(z.2:Int) - ((z72 m c).2.2:Int),(z72 m c).2.1.length)):=by
    show [AV.int .i64 ((0+z.1:Nat):Int),AV.int .i64 ((z.2:Int) - ((z128 m.2.1 m.2.2:Nat):Int)),AV.int .i64 ((atM (z72 m c):Int)+1 - ((z128 m.2.1 m.2.2:Nat):Int))]=[AV.int .i64 (z.1:Int),AV.int .i64 ((z.2:Int) - ((z128 m.2.1 m.2.2:Nat):Int)),AV.int .i64 ((z203 m.2.1 c).length:Int)];rw[Nat.zero_add, ←hat]
    congr 3
    congr 1
    omega
   rw[ev,el];exact Wp.ret key
  |none=>
   refine y6 rfl ?_
   (((with_reducible refine ye ?_ ?_ ?_);omega;omega))
   rw[el]
   have hfd:z157 m (c::s.drop (i+1)) i=z157 ((z4d c.toNat (atM (z72 m c)) (z72 m c).1).2,(z72 m c).2.1,(z72 m c).2.2) (s.drop (i+1)) (i+1):=by
    rw[z157,show (z72 m c).1=az1.map z112 by rw[e2],hz]
   rw[hfd] at hk hq
   have key:MatS h4 mb ab (z1e6 mb ab R' bv1) nbs ((z4d c.toNat (atM (z72 m c)) (z72 m c).1).2,(z72 m c).2.1,(z72 m c).2.2):=by
    refine⟨R',bv1,m4,by rw[a3,e2],rfl,nbs1,hu1,?_,fun _=>w3 hz⟩
    have:(z72 m c).2.2+(z72 m c).2.1.length=atM (z72 m c)+1:=by
     unfold atM;omega
    show z2fa ((z72 m c).2.2+(z72 m c).2.1.length) R';rw[this];exact b3
   refine z3b4 hn hsl k (i+1) fu _ (z1e6 mb ab R' bv1) h4 (by omega) (by omega) (by show (z72 m c).2.2+(z72 m c).2.1.length+k<80000;omega) key hT4 (by rw[t14.2.1,hx1]) kh4 hph hpS hnb (fun H' S' z' k' t' s' l'=>hk H' S' z' k' (tA.trans' t' subA) (fun b hb=>?_) l') (fun H' S' z z' k' t' s'=>hq H' S' z z' k' ((tA.mono fun b hb=>.inl (List.mem_cons_of_mem _ hb)).trans' t' fun b hb=>?_) fun b hb=>?_)
   ·rcases s' b hb with hb | hb
    ·exact subA b hb
    ·exact .inr (Nat.le_trans tA.1 hb)
   ·rcases List.mem_cons.1 hb with hb | hb
    ·exact .inl (by rw[hb];exact List.mem_cons_self)
    ·exact(subA b hb).imp (fun h=>List.mem_cons_of_mem _ h) id
   ·rcases s' b hb with hb | hb
    ·exact subA b hb
    ·exact .inr (Nat.le_trans tA.1 hb)
end
theorem z45c:(List.range 64).all (fun k=>Nat.beq (tzT.getD (2 ^ k*285870213051353865%18446744073709551616/288230376151711744) 0) k)=true:=by kernel_rfl
theorem low_ex:∀(f m:Nat),m<f→m≠0→∃k q,m=2 ^ k*(2*q+1)
 |0,_,h,_=>by omega
 |f+1,m,h,h0=>by
  rcases Nat.mod_two_eq_zero_or_one m with e|e
  ·obtain ⟨k, q, hk⟩ := low_ex f (m / 2) (by omega) (by omega)
   refine⟨k+1,q,?_⟩;rw[Nat.pow_succ,Nat.mul_right_comm, ←hk];omega
  ·exact⟨0,m/2,by omega⟩
theorem and_compl{j q:Nat}(hq:q<2 ^ j):q&&&(2 ^ j - (q+1))=0:=by
 refine Nat.eq_of_testBit_eq fun i=>?_;rw[Nat.testBit_and,Nat.testBit_two_pow_sub_succ hq,Nat.zero_testBit]
 cases q.testBit i<;>simp
theorem odd_and(a b:Nat)(h:a&&&b=0):(2*a+1)&&&(2*b+1)=1:=by
 refine Nat.eq_of_testBit_eq fun i=>?_;rw[Nat.testBit_and]
 cases i with
 |zero=>simp[Nat.testBit_zero,Nat.add_mod]
 |succ i=>
  have e:=congrArg (fun x=>x.testBit i) h;rw[Nat.testBit_and,Nat.zero_testBit] at e;rw[Nat.testBit_succ,Nat.testBit_succ,Nat.testBit_succ,show (2*a+1)/2=a by omega,show (2*b+1)/2=b by omega,e]
  simp
theorem low_and{m k q:Nat}(hm:m=2 ^ k*(2*q+1))(hb:m<18446744073709551616):k<64∧m&&&(18446744073709551616 - m)%18446744073709551616=2 ^ k:=by
  have hp:0<2 ^ k:=Nat.pow_pos (by decide)
  have hk:k<64:=by
    apply Nat.lt_of_not_le;intro hk;have h1:=Nat.pow_le_pow_right (n:=2) (by decide) hk;have h2:2 ^ k*1≤2 ^ k*(2*q+1):=Nat.mul_le_mul_left _ (by omega);omega
  refine⟨hk,?_⟩;obtain⟨j,hj⟩:∃j,63=k+j:=⟨63 - k,by omega⟩
  have h64:18446744073709551616=2 ^ k*(2*2 ^ j):=by
    rw[←Nat.mul_assoc,Nat.mul_comm (2 ^ k) 2,Nat.mul_assoc, ←Nat.pow_add, ←hj]
  have hq:q<2 ^ j:=by
    have h3:2 ^ k*(2*q+1)<2 ^ k*(2*2 ^ j):=by rw[←hm, ←h64];exact hb
    have:=Nat.lt_of_mul_lt_mul_left h3;omega
  have h5:(18446744073709551616 - m)%18446744073709551616=2 ^ k*(2*(2 ^ j - (q+1))+1):=by
    rw [Nat.mod_eq_of_lt (by have : 0 < m := by rw [hm]; exact Nat.mul_pos hp (by omega)
                             omega),h64,hm, ←Nat.mul_sub]
    congr 1
    omega
  rw[h5,hm];have h6:=odd_and _ _ (and_compl hq);rw[Nat.mul_comm,Nat.mul_comm (2 ^ k) (2*(2 ^ j - (q+1))+1), ←Nat.shiftLeft_eq, ←Nat.shiftLeft_eq, ←Nat.shiftLeft_and_distrib,h6,Nat.shiftLeft_eq,Nat.one_mul]
theorem tz_low{m k q:Nat}(hm:m=2 ^ k*(2*q+1))(hb:m<18446744073709551616):tzN m=k:=by
 obtain⟨hk,h⟩:=low_and hm hb;have:=List.all_eq_true.1 z45c k (List.mem_range.2 hk);unfold tzN tzI;rw[h];exact Nat.eq_of_beq_eq_true this
theorem low_bits{m k q:Nat}(hm:m=2 ^ k*(2*q+1)):m.testBit k=true∧∀i,(m&&&(m - 1)).testBit i=(m.testBit i&& !decide (i=k)):=by
 have hp:0<2 ^ k:=Nat.pow_pos (by decide);have d1:m/2 ^ k=2*q+1:=by rw[hm,Nat.mul_div_cancel_left _ hp]
 have d2:(m - 1)/2 ^ k=2*q:=by
  have:=Nat.mul_sub_div 0 (2 ^ k) (2*q+1) (Nat.mul_pos hp (by omega));rw[Nat.zero_add,Nat.zero_div, ←hm] at this;rw[this];omega
 have hk:m.testBit k=true:=by
  rw[Nat.testBit_eq_decide_div_mod_eq,d1];exact decide_eq_true (by omega)
 refine⟨hk,fun i=>?_⟩;rw[Nat.testBit_and]
 rcases Nat.lt_trichotomy i k with h|h|h
 ·have : m.testBit i = false := by
   obtain⟨j,hj⟩:∃j,k=i+(j+1):=⟨k - i - 1,by omega⟩;rw[Nat.testBit_eq_decide_div_mod_eq,hm,hj,Nat.pow_add,Nat.mul_assoc,Nat.mul_div_cancel_left _ (Nat.pow_pos (by decide)),Nat.pow_succ,Nat.mul_comm (2 ^ j) 2,Nat.mul_assoc];exact decide_eq_false (by omega)
  rw[this,Bool.false_and,Bool.false_and]
 ·subst h
  have:(m - 1).testBit i=false:=by
   rw[Nat.testBit_eq_decide_div_mod_eq,d2];exact decide_eq_false (by omega)
  rw[this,decide_eq_true rfl]
  simp
 ·obtain ⟨j, hj⟩ : ∃ j, i = k + (j + 1) := ⟨i - k - 1, by omega⟩
  have e:∀x:Nat,x/2 ^ i=x/2 ^ k/2/2 ^ j:=fun x=>by rw[hj,Nat.pow_add,Nat.pow_succ,Nat.mul_comm (2 ^ j) 2, ←Nat.mul_assoc, ←Nat.div_div_eq_div_mul, ←Nat.div_div_eq_div_mul]
  have:(m - 1).testBit i=m.testBit i:=by
   rw[Nat.testBit_eq_decide_div_mod_eq,Nat.testBit_eq_decide_div_mod_eq,e,e,d1,d2,show (2*q+1)/2=2*q/2 by omega]
  rw[this,decide_eq_false (by omega)]
  simp
theorem z451(fo:List Nat):∀(f m acc:Nat),m<f→m<18446744073709551616→∀r,(behF fo f m acc).testBit r=true↔acc.testBit r=true∨∃q,m.testBit q=true∧(fo.getD q 0).testBit r=true
 |0,_,_,h,_,_=>by omega
 |f+1,m,acc,hf,hm,r=>by
  rw[behF]
  by_cases h0:m=0
  ·rw [if_pos h0, h0]
   refine⟨.inl,fun h=>?_⟩
   rcases h with h|⟨q,h,_⟩
   ·exact h
   ·rw [Nat.zero_testBit] at h
    cases h
  ·rw [if_neg h0]
   obtain⟨k,q,hkq⟩:=low_ex (m+1) m (by omega) h0;have hl:=low_lt h0;obtain⟨b1,b2⟩:=low_bits hkq;rw[z451 fo f _ _ (by omega) (by omega) r,tz_low hkq hm,Nat.testBit_or,Bool.or_eq_true];constructor
   ·rintro ((h | h) | ⟨p, h, h2⟩)
    ·exact .inl h
    ·exact .inr ⟨k,b1,h⟩
    ·rw [b2, Bool.and_eq_true] at h
     exact .inr ⟨p,h.1,h2⟩
   ·rintro (h | ⟨p, h, h2⟩)
    ·exact .inl (.inl h)
    ·by_cases hp : p = k
     ·subst hp
      exact .inl (.inr h2)
     ·refine .inr ⟨p, ?_, h2⟩
      rw[b2,h,decide_eq_false hp];rfl
theorem z32a{N:Nt}{m:Nat}(hm:m<18446744073709551616)(r:Nat):(N.behind m).testBit r=true↔∃q,m.testBit q=true∧(N.fo.getD q 0).testBit r=true:=by
 unfold Nt.behind;rw[z451 N.fo _ m 0 (by omega) hm r,Nat.zero_testBit]
 simp
structure Frag where
 e:Bool
 F:Nat→Prop
 L:Nat→Prop
 E:Nat→Nat→Prop
 K:Nat→Nat→Prop
inductive Walk (a:Frag):Nat→List Nat→Nat→Prop
 |nil {q:Nat}:Walk a q [] q
 |cons {q r q' c:Nat} {s:List Nat} (e:a.E q r) (k:a.K r c) (w:Walk a r s q'):Walk a q (c::s) q'
def z410(a:Frag):List Nat→Prop
 |[]=>False
 |c::s=>∃q q',a.F q∧a.K q c∧a.L q'∧Walk a q s q'
structure Rec (a:Frag) (P:List Nat→Prop) (lo hi:Nat):Prop where
 e:a.e=true↔P []
 f:∀{c:Nat} {s:List Nat},z410 a (c::s)↔P (c::s)
 le:lo≤hi
 F:∀{q},a.F q→lo≤q∧q<hi
 L:∀{q},a.L q→lo≤q∧q<hi
 E:∀{q r},a.E q r→(lo≤q∧q<hi)∧lo≤r∧r<hi
 K:∀{q c},a.K q c→lo≤q∧q<hi
theorem Walk.mono{a b:Frag}(hE:∀{q r},a.E q r→b.E q r)(hK:∀{q c},a.K q c→b.K q c){q q':Nat}{s:List Nat}(w:Walk a q s q'):Walk b q s q':=by
 induction w with
 |nil=>exact .nil
 |cons e k _ ih=>exact .cons (hE e) (hK k) ih
theorem Walk.app{a:Frag}{q r q':Nat}{s t:List Nat}(w:Walk a q s r)(v:Walk a r t q'):Walk a q (s++t) q':=by
 induction w with
 |nil=>exact v
 |cons e k _ ih=>exact .cons e k (ih v)
def noF:Frag:=⟨true,fun _=>False,fun _=>False,fun _ _=>False,fun _ _=>False⟩
def badF:Frag:=⟨false,fun _=>False,fun _=>False,fun _ _=>False,fun _ _=>False⟩
def setF(w:List Nat)(u:Nat):Frag:=⟨false,fun q=>q=u,fun q=>q=u,fun _ _=>False,fun q c=>q=u∧inW w c=true⟩
def z44d(a b:Frag):Frag:=⟨a.e&&b.e,fun q=>a.F q∨(a.e=true∧b.F q),fun q=>b.L q∨(b.e=true∧a.L q),fun q r=>a.E q r∨b.E q r∨(a.L q∧b.F r),fun q c=>a.K q c∨b.K q c⟩
def altF(a b:Frag):Frag:=⟨a.e||b.e,fun q=>a.F q∨b.F q,fun q=>a.L q∨b.L q,fun q r=>a.E q r∨b.E q r,fun q c=>a.K q c∨b.K q c⟩
def z34b(a:Frag)(e:Bool):Frag:=⟨e,a.F,a.L,fun q r=>a.E q r∨(a.L q∧a.F r),a.K⟩
def optF(a:Frag):Frag:=⟨true,a.F,a.L,a.E,a.K⟩
inductive Plus (P:List Nat→Prop):List Nat→Prop
 |one {s:List Nat} (h:P s):Plus P s
 |more {s t:List Nat} (h:P s) (m:Plus P t):Plus P (s++t)
def Cat(P Q:List Nat→Prop)(s:List Nat):Prop:=∃s1 s2,s=s1++s2∧P s1∧Q s2
section
variable {a b:Frag}{P Q:List Nat→Prop}{lo mid hi u:Nat}{w:List Nat}
theorem z3e9(u:Nat):Rec noF (fun s=>s=[]) u u:=by
 refine⟨⟨fun _=>rfl,fun _=>rfl⟩,⟨fun h=>?_,fun h=>?_⟩,Nat.le_refl _,fun h=>False.elim h,fun h=>False.elim h,fun h=>False.elim h,fun h=>False.elim h⟩
 ·obtain ⟨_, _, h, _⟩ := h
  exact False.elim h
 ·cases h
theorem badF_rec(u:Nat):Rec badF (fun _=>False) u u:=by
 refine⟨⟨fun h=>?_,fun h=>False.elim h⟩,⟨fun h=>?_,fun h=>False.elim h⟩,Nat.le_refl _,fun h=>False.elim h,fun h=>False.elim h,fun h=>False.elim h,fun h=>False.elim h⟩
 ·cases h
 ·obtain ⟨_, _, h, _⟩ := h
  exact False.elim h
theorem setF_rec:Rec (setF w u) (fun s=>∃c,s=[c]∧inW w c=true) u (u+1):=by
 refine⟨⟨fun h=>?_,fun h=>?_⟩,⟨?_,?_⟩,by omega,fun h=>?_,fun h=>?_,fun h=>False.elim h,fun h=>?_⟩
 ·cases h
 ·obtain ⟨_, h, _⟩ := h
  cases h
 ·rintro ⟨q, q', _, k, _, v⟩
  cases v with
  |nil=>exact⟨_,rfl,k.2⟩
  |cons e _ _=>exact False.elim e
 ·rintro ⟨c, h, k⟩
  cases h;exact⟨u,u,rfl,⟨rfl,k⟩,rfl,.nil⟩
 ·have : _ = u := h
  omega
 ·have : _ = u := h
  omega
 ·have := h.1
  omega
theorem opt_rec(h:Rec a P lo hi):Rec (optF a) (fun s=>s=[]∨P s) lo hi:=by
 refine⟨⟨fun _=>.inl rfl,fun _=>rfl⟩,⟨fun ⟨q,q',h1,h2,h3,v⟩=>.inr (h.f.1 ⟨q,q',h1,h2,h3,Walk.mono (a:=optF a) (b:=a) (fun h=>h) (fun h=>h) v⟩),fun hp=>?_⟩,h.le,h.F,h.L,h.E,h.K⟩
 rcases hp with hp|hp
 ·cases hp
 ·obtain ⟨q, q', h1, h2, h3, v⟩ := h.f.2 hp
  exact⟨q,q',h1,h2,h3,Walk.mono (a:=a) (b:=optF a) (fun h=>h) (fun h=>h) v⟩
theorem Walk.left(ha:Rec a P lo mid)(hb:Rec b Q mid hi){X:Nat→Nat→Prop}{f:Frag}(hE:∀{q r},f.E q r→a.E q r∨b.E q r∨X q r)(hX:∀{q r},X q r→r<mid→False)(hK:∀{q c},f.K q c→a.K q c∨b.K q c){q q':Nat}{s:List Nat}(v:Walk f q s q'):
  q<mid→q'<mid→Walk a q s q':=by
 have back:∀{q q':Nat} {s:List Nat},Walk f q s q'→mid≤q→(∀{q r},X q r→mid≤r)→mid≤q':=by
  intro q q' s v
  induction v with
  |nil=>exact fun h _=>h
  |cons e k _ ih=>
   intro hq hx
   rcases hE e with h|h|h
   ·have := (ha.E h).1
    omega
   ·exact ih (hb.E h).2.1 hx
   ·exact ih (hx h) hx
 have hx2:∀{q r},X q r→mid≤r:=fun h=>Nat.le_of_not_lt fun h2=>hX h h2
 induction v with
 |nil=>exact fun _ _=>.nil
 |cons e k w ih=>
  intro h1 h2
  rcases hE e with h|h|h
  ·refine .cons h ?_ (ih (ha.E h).2.2 h2)
   rcases hK k with k|k
   ·exact k
   ·have := hb.K k
    have:=(ha.E h).2;omega
  ·have := (hb.E h).1
   omega
  ·have := back w (hx2 h) hx2
   omega
theorem Walk.right(ha:Rec a P lo mid)(hb:Rec b Q mid hi){X:Nat→Nat→Prop}{f:Frag}(hE:∀{q r},f.E q r→a.E q r∨b.E q r∨X q r)(hX:∀{q r},X q r→q<mid)(hK:∀{q c},f.K q c→a.K q c∨b.K q c){q q':Nat}{s:List Nat}(v:Walk f q s q'):
  mid≤q→Walk b q s q'∧mid≤q':=by
 induction v with
 |nil=>exact fun h=>⟨.nil,h⟩
 |cons e k w ih=>
  intro h1
  rcases hE e with h|h|h
  ·have := (ha.E h).1
   omega
  ·obtain ⟨i1, i2⟩ := ih (hb.E h).2.1
   refine⟨.cons h ?_ i1,i2⟩
   rcases hK k with k|k
   ·have := ha.K k
    have:=(hb.E h).2;omega
   ·exact k
  ·have := hX h
   omega
theorem alt_rec(ha:Rec a P lo mid)(hb:Rec b Q mid hi):Rec (altF a b) (fun s=>P s∨Q s) lo hi:=by
 have l1:=ha.le;have l2:=hb.le;refine⟨?_,⟨?_,?_⟩,by omega,fun h=>?_,fun h=>?_,fun h=>?_,fun h=>?_⟩
 ·show (a.e || b.e) = true ↔ _
  rw[Bool.or_eq_true,ha.e,hb.e]
 ·rintro ⟨q, q', h1, h2, h3, v⟩
  rcases h1 with h1|h1
  ·have hq := ha.F h1
   have hq':q'<mid:=by
    rcases h3 with h3|h3
    ·exact(ha.L h3).2
    ·apply Nat.lt_of_not_le
     intro hh
     have:∀{q q':Nat} {s:List Nat},Walk (altF a b) q s q'→q<mid→q'<mid:=by
      intro q q' s v
      induction v with
      |nil=>exact fun h=>h
      |cons e k w ih=>
       intro h
       rcases e with e|e
       ·exact ih (ha.E e).2.2
       ·have := (hb.E e).1
        omega
     have:=this v hq.2;omega
   have v2:=Walk.left ha hb (X:=fun _ _=>False) (f:=altF a b) (fun e=>Or.elim e Or.inl fun e=>Or.inr (Or.inl e)) (fun h _=>False.elim h) (fun k=>k) v hq.2 hq';refine .inl (ha.f.1 ⟨q,q',h1,?_,?_,v2⟩)
   ·rcases h2 with h2 | h2
    ·exact h2
    ·have := hb.K h2
     omega
   ·rcases h3 with h3 | h3
    ·exact h3
    ·have := hb.L h3
     omega
  ·have hq := hb.F h1
   obtain⟨v2,hq'⟩:=Walk.right ha hb (X:=fun _ _=>False) (f:=altF a b) (fun e=>Or.elim e Or.inl fun e=>Or.inr (Or.inl e)) (fun h=>False.elim h) (fun k=>k) v hq.1;refine .inr (hb.f.1 ⟨q,q',h1,?_,?_,v2⟩)
   ·rcases h2 with h2 | h2
    ·have := ha.K h2
     omega
    ·exact h2
   ·rcases h3 with h3 | h3
    ·have := ha.L h3
     omega
    ·exact h3
 ·rintro (h | h)
  ·obtain ⟨q, q', h1, h2, h3, v⟩ := ha.f.2 h
   exact⟨q,q',Or.inl h1,Or.inl h2,Or.inl h3,v.mono (b:=altF a b) (fun h=>Or.inl h) (fun h=>Or.inl h)⟩
  ·obtain ⟨q, q', h1, h2, h3, v⟩ := hb.f.2 h
   exact⟨q,q',Or.inr h1,Or.inr h2,Or.inr h3,v.mono (b:=altF a b) (fun h=>Or.inr h) (fun h=>Or.inr h)⟩
 ·rcases h with h | h
  ·have := ha.F h
   omega
  ·have := hb.F h
   omega
 ·rcases h with h | h
  ·have := ha.L h
   omega
  ·have := hb.L h
   omega
 ·rcases h with h | h
  ·have := ha.E h
   omega
  ·have := hb.E h
   omega
 ·rcases h with h | h
  ·have := ha.K h
   omega
  ·have := hb.K h
   omega
end
section
variable {a b:Frag}{P Q:List Nat→Prop}{lo mid hi:Nat}{e0:Bool}
theorem cat_split(ha:Rec a P lo mid)(hb:Rec b Q mid hi){q q':Nat}{s:List Nat}(v:Walk (z44d a b) q s q'):q<mid→mid≤q'→∃s1 c s2 p r,s=s1++c::s2∧Walk a q s1 p∧a.L p∧b.F r∧b.K r c∧Walk b r s2 q':=by
 induction v with
 |nil=>intro h1 h2;omega
 | @cons q r q' c s e k w ih=>
  intro h1 h2;have e':a.E q r∨b.E q r∨(a.L q∧b.F r):=e;have k':a.K r c∨b.K r c:=k
  rcases e' with e'|e'|⟨e1,e2⟩
  ·obtain ⟨s1, c', s2, p, r', es, w1, hp, hr, hk, w2⟩ := ih (ha.E e').2.2 h2
   refine⟨c::s1,c',s2,p,r',by rw[es];rfl,.cons e' ?_ w1,hp,hr,hk,w2⟩
   rcases k' with k'|k'
   ·exact k'
   ·have := hb.K k'
    have:=(ha.E e').2;omega
  ·have := (hb.E e').1
   omega
  ·have hr := hb.F e2
   refine⟨[],c,s,q,r,rfl,.nil,e1,e2,?_,(Walk.right ha hb (X:=fun q r=>a.L q∧b.F r) (f:=z44d a b) (fun e=>e) (fun h=>(ha.L h.1).2) (fun k=>k) w hr.1).1⟩
   rcases k' with k'|k'
   ·have := ha.K k'
    omega
   ·exact k'
theorem cat_rec(ha:Rec a P lo mid)(hb:Rec b Q mid hi):Rec (z44d a b) (Cat P Q) lo hi:=by
 have l1:=ha.le;have l2:=hb.le;refine⟨?_,⟨?_,?_⟩,by omega,fun h=>?_,fun h=>?_,fun h=>?_,fun h=>?_⟩
 ·show (a.e && b.e) = true ↔ _
  rw[Bool.and_eq_true,ha.e,hb.e];constructor
  ·exact fun ⟨h1,h2⟩=>⟨[],[],rfl,h1,h2⟩
  ·rintro ⟨s1, s2, e, h1, h2⟩
   obtain⟨rfl,rfl⟩:=List.append_eq_nil_iff.1 e.symm;exact⟨h1,h2⟩
 ·rintro ⟨q, q', h1, h2, h3, v⟩
  rename_i c s;have h1':a.F q∨(a.e=true∧b.F q):=h1;have h2':a.K q c∨b.K q c:=h2;have h3':b.L q'∨(b.e=true∧a.L q'):=h3
  rcases h1' with h1'|⟨he,h1'⟩
  ·have hq := ha.F h1'
   have hk:a.K q c:=by
    rcases h2' with h|h
    ·exact h
    ·have := hb.K h
     omega
   rcases h3' with h3'|⟨hbe,h3'⟩
   ·obtain ⟨s1, c', s2, p, r, es, w1, hp, hr, hk2, w2⟩ := cat_split ha hb v hq.2 (hb.L h3').1
    refine⟨c::s1,c'::s2,by rw[es];rfl,ha.f.1 ⟨q,p,h1',hk,hp,w1⟩,hb.f.1 ⟨r,q',hr,hk2,h3',w2⟩⟩
   ·have w := Walk.left ha hb (X := fun q r => a.L q ∧ b.F r) (f := z44d a b) (fun e => e) (fun h h2 => by have := hb.F h.2; omega) (fun k => k) v hq.2 (ha.L h3').2
    exact⟨c::s,[],(List.append_nil _).symm,ha.f.1 ⟨q,q',h1',hk,h3',w⟩,hb.e.1 hbe⟩
  ·have hq := hb.F h1'
   obtain⟨w,hq'⟩:=Walk.right ha hb (X:=fun q r=>a.L q∧b.F r) (f:=z44d a b) (fun e=>e) (fun h=>(ha.L h.1).2) (fun k=>k) v hq.1
   have hk:b.K q c:=by
    rcases h2' with h|h
    ·have := ha.K h
     omega
    ·exact h
   rcases h3' with h3'|⟨_,h3'⟩
   ·exact⟨[],c::s,rfl,ha.e.1 he,hb.f.1 ⟨q,q',h1',hk,h3',w⟩⟩
   ·have := ha.L h3'
    omega
 ·rintro ⟨s1, s2, es, hp, hq⟩
  have mb:∀{q q':Nat} {s:List Nat},Walk b q s q'→Walk (z44d a b) q s q':=fun w=>Walk.mono (a:=b) (b:=z44d a b) (fun h=>Or.inr (Or.inl h)) (fun h=>Or.inr h) w;have ma:∀{q q':Nat} {s:List Nat},Walk a q s q'→Walk (z44d a b) q s q':=fun w=>Walk.mono (a:=a) (b:=z44d a b) (fun h=>Or.inl h) (fun h=>Or.inl h) w
  cases s1 with
  |nil=>
   rw[List.nil_append] at es;rw[←es] at hq;obtain⟨q,q',h1,h2,h3,v⟩:=hb.f.2 hq;exact⟨q,q',Or.inr ⟨ha.e.2 hp,h1⟩,Or.inr h2,Or.inl h3,mb v⟩
  |cons c1 s1=>
   rw[List.cons_append,List.cons.injEq] at es;obtain⟨rfl,es⟩:=es;obtain⟨q,p,h1,h2,h3,v⟩:=ha.f.2 hp
   cases s2 with
   |nil=>
    rw[List.append_nil] at es;subst es;exact⟨q,p,Or.inl h1,Or.inl h2,Or.inr ⟨hb.e.2 hq,h3⟩,ma v⟩
   |cons c2 s2=>
    obtain⟨r,q',g1,g2,g3,w⟩:=hb.f.2 hq;subst es;exact⟨q,q',Or.inl h1,Or.inl h2,Or.inl g3,(ma v).app (Walk.cons (a:=z44d a b) (Or.inr (Or.inr ⟨h3,g1⟩)) (Or.inr g2) (mb w))⟩
 ·rcases h with h | ⟨_, h⟩
  ·have := ha.F h
   omega
  ·have := hb.F h
   omega
 ·rcases h with h | ⟨_, h⟩
  ·have := hb.L h
   omega
  ·have := ha.L h
   omega
 ·rcases h with h | h | ⟨h, g⟩
  ·have := ha.E h
   omega
  ·have := hb.E h
   omega
  ·have := ha.L h
   have:=hb.F g;omega
 ·rcases h with h | h
  ·have := ha.K h
   omega
  ·have := hb.K h
   omega
theorem plus_nil:Plus P []↔P []:=by
 refine⟨fun h=>?_,fun h=>.one h⟩
 generalize hs:([]:List Nat)=s at h
 induction h with
 |one h=>
  subst hs;exact h
 |more h _ _=>
  obtain⟨e1,_⟩:=List.append_eq_nil_iff.1 hs.symm;rw[e1] at h;rw[←hs];exact h
theorem z46d(ha:Rec a P lo hi){q q':Nat}{s:List Nat}(v:Walk (z34b a e0) q s q'):a.L q'→∃s1 s2 p,s=s1++s2∧Walk a q s1 p∧a.L p∧(s2=[]∨Plus P s2):=by
 induction v with
 |nil=>exact fun h=>⟨[],[],_,rfl,.nil,h,.inl rfl⟩
 | @cons q r q' c s e k w ih=>
  intro h;obtain⟨s1,s2,p,es,w1,hp,h2⟩:=ih h;have e':a.E q r∨(a.L q∧a.F r):=e
  rcases e' with e'|⟨e1,e2⟩
  ·exact⟨c::s1,s2,p,by rw[es];rfl,.cons e' k w1,hp,h2⟩
  ·have hP := ha.f.1 ⟨r, p, e2, k, hp, w1⟩
   refine⟨[],c::s,q,rfl,.nil,e1,.inr ?_⟩;rw[es]
   rcases h2 with rfl|h2
   ·rw [List.append_nil]
    exact .one hP
   ·exact .more hP h2
theorem more_fits(ha:Rec a P lo hi){c:Nat}{s:List Nat}:z410 (z34b a e0) (c::s)↔Plus P (c::s):=by
 have ma:∀{q q':Nat} {s:List Nat},Walk a q s q'→Walk (z34b a e0) q s q':=fun w=>Walk.mono (a:=a) (b:=z34b a e0) (fun h=>Or.inl h) (fun h=>h) w;constructor
 ·rintro ⟨q, q', h1, h2, h3, v⟩
  obtain⟨s1,s2,p,es,w1,hp,h4⟩:=z46d ha v h3;have hP:=ha.f.1 ⟨q,p,h1,h2,hp,w1⟩;rw[es]
  rcases h4 with rfl|h4
  ·rw [List.append_nil]
   exact .one hP
  ·exact .more hP h4
 ·intro h
  generalize hs:c::s=z at h
  induction h generalizing c s with
  |one h=>
   subst hs;obtain⟨q,q',h1,h2,h3,v⟩:=ha.f.2 h;exact⟨q,q',h1,h2,h3,ma v⟩
  | @more s1 t h m ih=>
   cases s1 with
   |nil=>exact ih hs
   |cons c1 s1=>
    rw[List.cons_append,List.cons.injEq] at hs;obtain⟨rfl,rfl⟩:=hs;obtain⟨q,p,h1,h2,h3,v⟩:=ha.f.2 h
    cases t with
    |nil=>
     rw[List.append_nil];exact⟨q,p,h1,h2,h3,ma v⟩
    |cons c2 t=>
     obtain⟨r,q',g1,g2,g3,w⟩:=ih rfl;exact⟨q,q',h1,h2,g3,(ma v).app (Walk.cons (a:=z34b a e0) (Or.inr ⟨h3,g1⟩) g2 w)⟩
theorem z42a(ha:Rec a P lo hi){R:List Nat→Prop}(he:e0=true↔R [])(hR:∀{c s},R (c::s)↔Plus P (c::s)):Rec (z34b a e0) R lo hi:=by
 refine⟨he,(more_fits ha).trans hR.symm,ha.le,ha.F,ha.L,fun h=>?_,ha.K⟩
 rcases h with h|⟨h,g⟩
 ·exact ha.E h
 ·exact⟨ha.L h,ha.F g⟩
end
mutual
def Lang:Nd→List Nat→Prop
 | .mk op w ks=>if op=2 then (fun s=>∃c,s=[c]∧inW w c=true) else if op=3 then LCat ks else if op=4 then LAlt ks else if op=5 then (fun s=>s=[]∨Plus (z495 ks) s) else if op=6 then Plus (z495 ks) else if op=7 then (fun s=>s=[]∨z495 ks s) else (fun s=>s=[])
def LCat:List Nd→List Nat→Prop
 |[]=>fun s=>s=[]
 |k::ks=>Cat (Lang k) (LCat ks)
def LAlt:List Nd→List Nat→Prop
 |[]=>fun _=>False
 |k::ks=>fun s=>Lang k s∨LAlt ks s
def z495:List Nd→List Nat→Prop
 |[]=>fun s=>s=[]
 |k::_=>Lang k
end
mutual
def zfa:Nd→Nat→Frag×Nat
 | .mk op w ks,u=>if op=2 then (setF w u,u+1) else if op=3 then z488 ks noF u else if op=4 then z491 ks badF u else if op=5 then (z34b (z1c5 ks u).1 true,(z1c5 ks u).2) else if op=6 then (z34b (z1c5 ks u).1 (z1c5 ks u).1.e,(z1c5 ks u).2) else if op=7 then (optF (z1c5 ks u).1,(z1c5 ks u).2) else (noF,u)
def z488:List Nd→Frag→Nat→Frag×Nat
 |[],a,u=>(a,u)
 |k::ks,a,u=>z488 ks (z44d a (zfa k u).1) (zfa k u).2
def z491:List Nd→Frag→Nat→Frag×Nat
 |[],a,u=>(a,u)
 |k::ks,a,u=>z491 ks (altF a (zfa k u).1) (zfa k u).2
def z1c5:List Nd→Nat→Frag×Nat
 |[],u=>(noF,u)
 |k::_,u=>zfa k u
end
theorem Rec.congr{a:Frag}{P Q:List Nat→Prop}{lo hi:Nat}(h:Rec a P lo hi)(hq:∀s,P s↔Q s):Rec a Q lo hi:=
 ⟨h.e.trans (hq _),h.f.trans (hq _),h.le,h.F,h.L,h.E,h.K⟩
theorem cat_assoc{P Q R:List Nat→Prop}(s:List Nat):Cat (Cat P Q) R s↔Cat P (Cat Q R) s:=by
 constructor
 ·rintro ⟨_, s3, rfl, ⟨s1, s2, rfl, h1, h2⟩, h3⟩
  exact⟨s1,s2++s3,List.append_assoc _ _ _,h1,s2,s3,rfl,h2,h3⟩
 ·rintro ⟨s1, _, rfl, h1, s2, s3, rfl, h2, h3⟩
  exact⟨s1++s2,s3,(List.append_assoc _ _ _).symm,⟨s1,s2,rfl,h1,h2⟩,h3⟩
theorem z3bb{P:List Nat→Prop}(s:List Nat):Cat (fun s=>s=[]) P s↔P s:=by
 constructor
 ·rintro ⟨_, s2, rfl, rfl, h⟩
  exact h
 ·exact fun h=>⟨[],s,rfl,rfl,h⟩
theorem z23a{P:List Nat→Prop}(s:List Nat):Cat P (fun s=>s=[]) s↔P s:=by
 constructor
 ·rintro ⟨s1, _, rfl, h, rfl⟩
  rw[List.append_nil];exact h
 ·exact fun h=>⟨s,[],(List.append_nil _).symm,h,rfl⟩
mutual
theorem z231:∀(t:Nd) (u:Nat),Rec (zfa t u).1 (Lang t) u (zfa t u).2
 | .mk op w ks,u=>by
  rw[zfa,Lang]
  by_cases h2:op=2
  ·rw [if_pos h2, if_pos h2]
   exact setF_rec
  rw[if_neg h2,if_neg h2]
  by_cases h3:op=3
  ·rw [if_pos h3, if_pos h3]
   exact(z44b ks (z3e9 u)).congr z3bb
  rw[if_neg h3,if_neg h3]
  by_cases h4:op=4
  ·rw [if_pos h4, if_pos h4]
   exact(z457 ks (badF_rec u)).congr fun s=>⟨fun h=>h.elim (fun h=>h.elim) (fun h=>h),.inr⟩
  rw[if_neg h4,if_neg h4];have hh:=headG_rec ks u
  by_cases h5:op=5
  ·rw [if_pos h5, if_pos h5]
   exact z42a hh ⟨fun _=>.inl rfl,fun _=>rfl⟩ ⟨fun h=>h.elim (fun h=>nomatch h) (fun h=>h),.inr⟩
  rw[if_neg h5,if_neg h5]
  by_cases h6:op=6
  ·rw [if_pos h6, if_pos h6]
   exact z42a hh (hh.e.trans plus_nil.symm) .rfl
  rw[if_neg h6,if_neg h6]
  by_cases h7:op=7
  ·rw [if_pos h7, if_pos h7]
   exact opt_rec hh
  ·rw [if_neg h7, if_neg h7]
   exact z3e9 u
theorem z44b:∀(ks:List Nd) {a:Frag} {P:List Nat→Prop} {lo u:Nat},Rec a P lo u→Rec (z488 ks a u).1 (Cat P (LCat ks)) lo (z488 ks a u).2
 |[],_,_,_,_,h=>by
  rw[z488,LCat];exact h.congr fun s=>(z23a s).symm
 |k::ks,_,_,_,_,h=>by
  rw[z488,LCat];exact(z44b ks (cat_rec h (z231 k _))).congr cat_assoc
theorem z457:∀(ks:List Nd) {a:Frag} {P:List Nat→Prop} {lo u:Nat},Rec a P lo u→Rec (z491 ks a u).1 (fun s=>P s∨LAlt ks s) lo (z491 ks a u).2
 |[],_,_,_,_,h=>by
  rw[z491,LAlt];exact h.congr fun s=>⟨.inl,fun h=>h.elim (fun h=>h) (fun h=>h.elim)⟩
 |k::ks,_,_,_,_,h=>by
  rw[z491,LAlt];exact(z457 ks (alt_rec h (z231 k _))).congr fun s=>or_assoc
theorem headG_rec:∀(ks:List Nd) (u:Nat),Rec (z1c5 ks u).1 (z495 ks) u (z1c5 ks u).2
 |[],u=>by
  rw[z1c5,z495];exact z3e9 u
 |k::_,u=>by
  rw[z1c5,z495];exact z231 k u
end
def bitE(N:Nt)(q r:Nat):Prop:=(N.fo.getD q 0).testBit r=true
def z44f(N:Nt)(r c:Nat):Prop:=(N.ta.getD c 0).testBit r=true
structure Rep (p:Pc) (a:Frag):Prop where
 e:p.empty=a.e
 F:∀q,p.first.testBit q=true↔a.F q
 L:∀q,p.last.testBit q=true↔a.L q
structure RepN (N N':Nt) (a:Frag):Prop where
 E:∀q r,bitE N' q r↔bitE N q r∨a.E q r
 K:∀r c,c<256→(z44f N' r c↔z44f N r c∨a.K r c)
theorem z4a8{x q:Nat}(h:x<18446744073709551616)(hq:x.testBit q=true):q<64:=by
 apply Nat.lt_of_not_le;intro hh;have h1:=Nat.pow_le_pow_right (n:=2) (by decide) hh;rw[Nat.testBit_lt_two_pow (by omega)] at hq;cases hq
theorem z2bd(g:Nat→Nat→Nat){l:List Nat}{q:Nat}(h:q<l.length):(z34e g 0 l).getD q 0=g q (l.getD q 0):=by
 rw[List.getD_eq_getElem?_getD,List.getD_eq_getElem?_getD,z228,Nat.zero_add,List.getElem?_eq_getElem h];rfl
theorem z353{l:List Nat}{q:Nat}(h:l.length≤q):l.getD q 0=0:=by
 rw[List.getD_eq_getElem?_getD,List.getElem?_eq_none h];rfl
theorem z319{N:Nt}(k:NtOk N){those these:Nat}(ht:those<18446744073709551616)(q r:Nat):bitE (N.follow those these) q r↔bitE N q r∨(those.testBit q=true∧these.testBit r=true):=by
 unfold bitE;show ((z34e (z496 those these) 0 N.fo).getD q 0).testBit r=true↔_
 by_cases hq:q<64
 ·rw [z2bd _ (by rw [k.fl]; exact hq)]
  unfold z496
  by_cases hb:those.testBit q=true
  ·rw [if_pos hb, Nat.testBit_or, Bool.or_eq_true]
   simp[hb]
  ·rw [if_neg hb]
   simp[hb]
 ·rw [z353 (by rw [z1d2, k.fl]; omega), z353 (by rw [k.fl]; omega), Nat.zero_testBit]
  constructor
  ·exact fun h=>nomatch h
  ·rintro (h | ⟨h, _⟩)
   ·exact h
   ·exact absurd (z4a8 ht h) hq
theorem place_bit{N:Nt}(k:NtOk N){w:List Nat}{u:Nat}(hu:u<64)(r c:Nat)(hc:c<256):z44f (N.place w (bitN u)) r c↔z44f N r c∨(r=u∧inW w c=true):=by
 unfold z44f;show ((z34e (plG w (bitN u)) 0 N.ta).getD c 0).testBit r=true↔_;rw[z2bd _ (by rw[k.tl];exact hc)];unfold plG bitN;rw[if_pos hu]
 by_cases hb:inW w c=true
 ·rw [if_pos hb, Nat.testBit_or, Bool.or_eq_true, Nat.testBit_two_pow, decide_eq_true_eq]
  simp only[hb,and_true];exact or_congr .rfl eq_comm
 ·rw [if_neg hb]
  simp[hb]
section
variable {N0 N N1:Nt}{a b:Frag}{p q:Pc}
theorem RepN.refl(N:Nt)(e:Bool):RepN N N ⟨e,fun _=>False,fun _=>False,fun _ _=>False,fun _ _=>False⟩:=⟨fun _ _=>(or_false _).to_iff.symm,fun _ _ _=>(or_false _).to_iff.symm⟩
theorem RepN.cat(k:NtOk N1)(hp:PcOk p)(h1:RepN N0 N a)(h2:RepN N N1 b)(rp:Rep p a)(rq:Rep q b):RepN N0 (N1.follow p.last q.first) (z44d a b):=by
 refine⟨fun x y=>?_,fun x c hc=>?_⟩
 ·rw [z319 k hp.l, h2.E, h1.E, rp.L, rq.F]
  show _↔_∨(a.E x y∨b.E x y∨(a.L x∧b.F y));rw[or_assoc,or_assoc]
 ·have : z44f (N1.follow p.last q.first) x c ↔ z44f N1 x c := .rfl
  rw[this,h2.K x c hc,h1.K x c hc];show _↔_∨(a.K x c∨b.K x c);rw[or_assoc]
theorem Rep.cat(rp:Rep p a)(rq:Rep q b):Rep (behN p q) (z44d a b):=by
 refine⟨?_,fun x=>?_,fun x=>?_⟩
 ·show (p.empty && q.empty) = (a.e && b.e)
  rw[rp.e,rq.e]
 ·show (if p.empty = true then p.first ||| q.first else p.first).testBit x = true ↔ a.F x ∨ (a.e = true ∧ b.F x)
  rw[rp.e]
  by_cases h:a.e=true
  ·rw [if_pos h, Nat.testBit_or, Bool.or_eq_true, rp.F, rq.F]
   simp[h]
  ·rw [if_neg h, rp.F]
   simp[h]
 ·show (if q.empty = true then q.last ||| p.last else q.last).testBit x = true ↔ b.L x ∨ (b.e = true ∧ a.L x)
  rw[rq.e]
  by_cases h:b.e=true
  ·rw [if_pos h, Nat.testBit_or, Bool.or_eq_true, rp.L, rq.L]
   simp[h]
  ·rw [if_neg h, rq.L]
   simp[h]
theorem RepN.alt(h1:RepN N0 N a)(h2:RepN N N1 b):RepN N0 N1 (altF a b):=by
 refine⟨fun x y=>?_,fun x c hc=>?_⟩
 ·rw [h2.E, h1.E]
  show _↔_∨(a.E x y∨b.E x y);rw[or_assoc]
 ·rw [h2.K x c hc, h1.K x c hc]
  show _↔_∨(a.K x c∨b.K x c);rw[or_assoc]
theorem Rep.alt(rp:Rep p a)(rq:Rep q b):Rep (altP p q) (altF a b):=by
 refine⟨?_,fun x=>?_,fun x=>?_⟩
 ·show (p.empty || q.empty) = (a.e || b.e)
  rw[rp.e,rq.e]
 ·show (p.first ||| q.first).testBit x = true ↔ a.F x ∨ b.F x
  rw[Nat.testBit_or,Bool.or_eq_true,rp.F,rq.F]
 ·show (p.last ||| q.last).testBit x = true ↔ a.L x ∨ b.L x
  rw[Nat.testBit_or,Bool.or_eq_true,rp.L,rq.L]
theorem RepN.more(k:NtOk N)(hp:PcOk p)(h1:RepN N0 N a)(rp:Rep p a)(e:Bool):RepN N0 (N.follow p.last p.first) (z34b a e):=by
 refine⟨fun x y=>?_,fun x c hc=>h1.K x c hc⟩;rw[z319 k hp.l,h1.E,rp.L,rp.F];show _↔_∨(a.E x y∨(a.L x∧a.F y));rw[or_assoc]
theorem z41f(e:Bool):Rep ⟨e,0,0⟩ ⟨e,fun _=>False,fun _=>False,fun _ _=>False,fun _ _=>False⟩:=⟨rfl,fun q=>by rw[Nat.zero_testBit];simp,fun q=>by rw[Nat.zero_testBit];simp⟩
end
structure Reps (N0:Nt) (x:Pc×Nt×Nat) (y:Frag×Nat):Prop where
 p:Rep x.1 y.1
 n:RepN N0 x.2.1 y.1
 u:x.2.2=y.2
mutual
theorem frag_le:∀(t:Nd) (u:Nat),u≤(zfa t u).2
 |t,u=>(z231 t u).le
theorem catG_le:∀(ks:List Nd) (a:Frag) (u:Nat),u≤(z488 ks a u).2
 |[],_,_=>Nat.le_refl _
 |k::ks,_,u=>Nat.le_trans (frag_le k u) (catG_le ks _ _)
theorem altG_le:∀(ks:List Nd) (a:Frag) (u:Nat),u≤(z491 ks a u).2
 |[],_,_=>Nat.le_refl _
 |k::ks,_,u=>Nat.le_trans (frag_le k u) (altG_le ks _ _)
end
mutual
theorem z216:∀(t:Nd) {N:Nt} {u:Nat},NtOk N→(zfa t u).2≤64→Reps N (z42 t N u) (zfa t u)
 | .mk op w ks,N,u,k,h=>by
  rw[zfa] at h;rw[z42,zfa]
  by_cases h2:op=2
  ·rw [if_pos h2] at h
   rw[if_pos h2,if_pos h2];have hu:u<64:=h;refine⟨⟨rfl,fun q=>?_,fun q=>?_⟩,⟨fun q r=>?_,fun r c hc=>place_bit k hu r c hc⟩,rfl⟩
   ·show (bitN u).testBit q = true ↔ q = u
    unfold bitN;rw[if_pos hu,Nat.testBit_two_pow,decide_eq_true_eq];exact eq_comm
   ·show (bitN u).testBit q = true ↔ q = u
    unfold bitN;rw[if_pos hu,Nat.testBit_two_pow,decide_eq_true_eq];exact eq_comm
   ·exact(or_false _).to_iff.symm
  rw[if_neg h2] at h;rw[if_neg h2,if_neg h2]
  by_cases h3:op=3
  ·rw [if_pos h3] at h
   rw[if_pos h3,if_pos h3];exact z44a ks k z2b2 (z41f true) (RepN.refl N true) h
  rw[if_neg h3] at h;rw[if_neg h3,if_neg h3]
  by_cases h4:op=4
  ·rw [if_pos h4] at h
   rw[if_pos h4,if_pos h4];exact z456 ks k (z41f false) (RepN.refl N false) h
  rw[if_neg h4] at h;rw[if_neg h4,if_neg h4];have hk:=z436 ks (u:=u) k
  by_cases h5:op=5
  ·subst h5
   rw[if_pos rfl] at h;rw[if_pos (.inl rfl),if_pos rfl];have r:=z2c6 ks k h;refine⟨⟨?_,r.p.F,r.p.L⟩,r.n.more hk.n hk.p r.p true,r.u⟩;show ((z1ab ks N u).1.empty||true)=true;rw[Bool.or_true]
  rw[if_neg h5] at h
  by_cases h6:op=6
  ·subst h6
   rw[if_pos rfl] at h;rw[if_pos (.inr rfl),if_neg h5,if_pos rfl];have r:=z2c6 ks k h;refine⟨⟨?_,r.p.F,r.p.L⟩,r.n.more hk.n hk.p r.p _,r.u⟩;show ((z1ab ks N u).1.empty||false)=_;rw[Bool.or_false];exact r.p.e
  rw[if_neg h6] at h;rw[if_neg (fun hh=>hh.elim h5 h6),if_neg h5,if_neg h6]
  by_cases h7:op=7
  ·rw [if_pos h7] at h
   rw[if_pos h7,if_pos h7];have r:=z2c6 ks k h;exact⟨⟨rfl,r.p.F,r.p.L⟩,⟨r.n.E,r.n.K⟩,r.u⟩
  ·rw [if_neg h7, if_neg h7]
   exact⟨z41f true,RepN.refl N true,rfl⟩
theorem z44a:∀(ks:List Nd) {N0 N:Nt} {p:Pc} {a:Frag} {u:Nat},NtOk N→PcOk p→Rep p a→RepN N0 N a→(z488 ks a u).2≤64→Reps N0 (catN ks p N u) (z488 ks a u)
 |[],_,_,_,_,_,_,_,rp,rn,_=>⟨rp,rn,rfl⟩
 |k::ks,N0,N,p,a,u,hN,hp,rp,rn,h=>by
  rw[z488] at h;rw[catN,z488];have r:=z216 k hN (Nat.le_trans (catG_le ks _ _) h);have o:=zcf k (u:=u) hN;have:=z44a ks (N0:=N0) (u:=(zfa k u).2) (o.n.follow (those:=p.last) o.p.f) (z40a hp o.p) (rp.cat r.p) (RepN.cat o.n hp rn r.n rp r.p) h;rw[r.u];exact this
theorem z456:∀(ks:List Nd) {N0 N:Nt} {p:Pc} {a:Frag} {u:Nat},NtOk N→Rep p a→RepN N0 N a→(z491 ks a u).2≤64→Reps N0 (altN ks p N u) (z491 ks a u)
 |[],_,_,_,_,_,_,rp,rn,_=>⟨rp,rn,rfl⟩
 |k::ks,N0,N,p,a,u,hN,rp,rn,h=>by
  rw[z491] at h;rw[altN,z491];have r:=z216 k hN (Nat.le_trans (altG_le ks _ _) h);have o:=zcf k (u:=u) hN;have:=z456 ks (N0:=N0) (u:=(zfa k u).2) o.n (rp.alt r.p) (rn.alt r.n) h;rw[r.u];exact this
theorem z2c6:∀(ks:List Nd) {N:Nt} {u:Nat},NtOk N→(z1c5 ks u).2≤64→Reps N (z1ab ks N u) (z1c5 ks u)
 |[],N,_,_,_=>⟨z41f true,RepN.refl N true,rfl⟩
 |k::_,_,_,hN,h=>by
  rw[z1c5] at h;rw[z1ab,z1c5];exact z216 k hN h
end
open Go.RowKit Abs
theorem and_ne{x y:Nat}:x&&&y≠0↔∃r,x.testBit r=true∧y.testBit r=true:=by
 constructor
 ·intro h
  apply Classical.byContradiction;intro hn;refine h (Nat.eq_of_testBit_eq fun i=>?_);rw[Nat.zero_testBit,Nat.testBit_and];cases hx:x.testBit i with
  |false=>rfl
  |true=>
   cases hy:y.testBit i with
   |false=>rfl
   |true=>exact absurd ⟨i,hx,hy⟩ hn
 ·rintro ⟨r, h1, h2⟩ h
  have:=congrArg (fun z=>z.testBit r) h;rw[Nat.testBit_and,h1,h2,Nat.zero_testBit] at this
  cases this
theorem z241(fo:List Nat)(these q:Nat):∀i,(aheadF fo these i).testBit q=true↔q<i∧∃r,(fo.getD q 0).testBit r=true∧these.testBit r=true
 |0=>by
  rw[aheadF,Nat.zero_testBit]
  simp
 |i+1=>by
  rw[aheadF]
  by_cases hz:fo.getD i 0&&&these≠0
  ·rw [if_pos hz, Nat.testBit_or, Bool.or_eq_true, z241 fo these q i, Nat.testBit_two_pow, decide_eq_true_eq]
   constructor
   ·rintro (⟨h, h2⟩ | rfl)
    ·exact⟨by omega,h2⟩
    ·exact⟨by omega,and_ne.1 hz⟩
   ·rintro ⟨h, h2⟩
    by_cases hq:q=i
    ·exact .inr hq.symm
    ·exact .inl ⟨by omega,h2⟩
  ·rw [if_neg hz, z241 fo these q i]
   constructor
   ·exact fun ⟨h,h2⟩=>⟨by omega,h2⟩
   ·rintro ⟨h, h2⟩
    by_cases hq:q=i
    ·subst hq
     exact absurd (and_ne.2 h2) hz
    ·exact⟨by omega,h2⟩
theorem z3e2(ta:List Nat)(q:Nat):∀i,(orF ta i).testBit q=true↔∃c,c<i∧(ta.getD c 0).testBit q=true
 |0=>by
  rw[orF,Nat.zero_testBit]
  simp
 |i+1=>by
  rw[orF,Nat.testBit_or,Bool.or_eq_true,z3e2 ta q i];constructor
  ·rintro (⟨c, h, h2⟩ | h)
   ·exact⟨c,by omega,h2⟩
   ·exact⟨i,by omega,h⟩
  ·rintro ⟨c, h, h2⟩
   by_cases hc:c=i
   ·subst hc
    exact .inr h2
   ·exact .inl ⟨c,by omega,h2⟩
theorem z42e(fo:List Nat)(sm:Nat):∀(f live more:Nat),(if more=0 then 0 else 18446744073709551616 - live)<f→live<18446744073709551616→(more=0→z179 fo sm live=0)→z179 fo sm (z2ed fo sm f live more)=0∧∀q,live.testBit q=true→(z2ed fo sm f live more).testBit q=true
 |0,_,_,h,_,_=>by omega
 |f+1,live,more,h,hl,h0=>by
  rw[z2ed]
  by_cases hm:more=0
  ·rw [if_pos hm]
   exact⟨h0 hm,fun _ h=>h⟩
  ·rw [if_neg hm] at h
   rw[if_neg hm];have hup:z179 fo sm live≠0→live<live|||z179 fo sm live:=more_up;have hs:=zb4 hl (z14e fo sm live)
   obtain⟨i1,i2⟩:=z42e fo sm f (live|||z179 fo sm live) (z179 fo sm live) (by
    split
    ·omega
    ·have := hup (by assumption)
     omega) hs (fun e=>by rw[e,Nat.or_zero];exact e)
   exact⟨i1,fun q hq=>i2 q (by rw[Nat.testBit_or,hq];rfl)⟩
def z3ea(N:Nt):Frag:=⟨N.empty,fun q=>N.first.testBit q=true,fun q=>N.last.testBit q=true,bitE N,z44f N⟩
def someB(N:Nt)(q:Nat):Prop:=∃c,c<256∧z44f N q c
section
variable {N:Nt}(k:NtOk N)
include k
theorem z42f:z179 N.fo (orF N.ta 256) N.live=0∧∀q,(N.last&&&orF N.ta 256).testBit q=true→N.live.testBit q=true:=by
 refine z42e N.fo (orF N.ta 256) 18446744073709551620 _ _ (by split<;>omega) (zac k.l) fun e=>?_;rw[e];refine Nat.eq_of_testBit_eq fun i=>?_;rw[Nat.zero_testBit];cases hb:(z179 N.fo (orF N.ta 256) 0).testBit i with
 |false=>rfl
 |true=>
  unfold z179 at hb;rw[z28e,Nat.testBit_and,Bool.and_eq_true,Bool.and_eq_true,z241] at hb;obtain⟨⟨⟨_,r,_,h⟩,_⟩,_⟩:=hb;rw[Nat.zero_testBit] at h;cases h
theorem live_last{q:Nat}(h:N.last.testBit q=true)(hs:someB N q):N.live.testBit q=true:=by
 refine(z42f k).2 q ?_;rw[Nat.testBit_and,h,(z3e2 N.ta q 256).2 hs];rfl
theorem live_back{q r:Nat}(h:bitE N q r)(hr:N.live.testBit r=true)(hs:someB N q):N.live.testBit q=true:=by
 have hq:q<64:=by
  apply Nat.lt_of_not_le;intro hh;unfold bitE at h;rw[z353 (by rw[k.fl];exact hh),Nat.zero_testBit] at h;cases h
 cases hb:N.live.testBit q with
 |true=>rfl
 |false=>
  have e:=congrArg (fun z=>z.testBit q) (z42f k).1;unfold z179 at e;rw[z28e,Nat.testBit_and,(z241 _ _ _ _).2 ⟨hq,r,h,hr⟩,(z3e2 N.ta q 256).2 hs,hb,Nat.zero_testBit] at e
  cases e
theorem z414{q c:Nat}(hc:c<256):z44f N.trim q c↔z44f N q c∧N.live.testBit q=true:=by
 unfold z44f;show ((z34e (cutG N.live) 0 N.ta).getD c 0).testBit q=true↔_;rw[z2bd _ (by rw[k.tl];exact hc)];unfold cutG;rw[Nat.testBit_and,Bool.and_eq_true]
theorem z49b{q q':Nat}{s:List Nat}(w:Walk (z3ea N) q s q'):(∀c∈s,c<256)→N.last.testBit q'=true→someB N q→N.live.testBit q=true∧Walk (z3ea N.trim) q s q':=by
 induction w with
 |nil=>exact fun _ hl hs=>⟨live_last k hl hs,.nil⟩
 | @cons q r q' c s e kk w ih=>
  intro hc hl hs;have h1:=hc c List.mem_cons_self;obtain⟨i1,i2⟩:=ih (fun c h=>hc c (List.mem_cons_of_mem _ h)) hl ⟨c,h1,kk⟩;exact⟨live_back k e i1 hs,Walk.cons (a:=z3ea N.trim) e ((z414 k h1).2 ⟨kk,i1⟩) i2⟩
theorem walk_raw{q q':Nat}{s:List Nat}(w:Walk (z3ea N.trim) q s q'):(∀c∈s,c<256)→Walk (z3ea N) q s q':=by
 induction w with
 |nil=>exact fun _=>.nil
 | @cons q r q' c s e kk w ih=>exact fun hc=>Walk.cons (a:=z3ea N) e ((z414 k (hc c List.mem_cons_self)).1 kk).1 (ih fun c h=>hc c (List.mem_cons_of_mem _ h))
theorem z4a0{s:List Nat}(hc:∀c∈s,c<256):z410 (z3ea N.trim) s↔z410 (z3ea N) s:=by
 cases s with
 |nil=>exact .rfl
 |cons c s=>
  have h1:=hc c List.mem_cons_self;have h2:=fun c h=>hc c (List.mem_cons_of_mem _ h);constructor
  ·rintro ⟨q, q', g1, g2, g3, w⟩
   have g1':(N.first&&&N.live).testBit q=true:=g1;rw[Nat.testBit_and,Bool.and_eq_true] at g1';exact⟨q,q',g1'.1,((z414 k h1).1 g2).1,g3,walk_raw k w h2⟩
  ·rintro ⟨q, q', g1, g2, g3, w⟩
   obtain⟨i1,i2⟩:=z49b k w h2 g3 ⟨c,h1,g2⟩;refine⟨q,q',?_,(z414 k h1).2 ⟨g2,i1⟩,g3,i2⟩;show (N.first&&&N.live).testBit q=true;rw[Nat.testBit_and,Bool.and_eq_true];exact⟨g1,i1⟩
theorem z4ad(s:zf):∀{m:Nat},m<18446744073709551616→∀q,(runN N (true,m) s).2.testBit q=true↔∃q0,m.testBit q0=true∧Walk (z3ea N) q0 (s.map UInt8.toNat) q:=by
 induction s with
 |nil=>
  intro m _ q;constructor
  ·exact fun h=>⟨q,h,.nil⟩
  ·rintro ⟨q0, h, w⟩
   cases w
   exact h
 |cons c s ih=>
  intro m hm q;have hs:=z302 k (true,m) c.toNat
  have he:stepN N (true,m) c.toNat=(true,N.behind m&&&N.ta.getD c.toNat 0):=by
   unfold stepN;rw[if_pos rfl]
  rw[he] at hs
  have hr:runN N (true,m) (c::s)=runN N (true,N.behind m&&&N.ta.getD c.toNat 0) s:=by
   rw[←he];unfold runN;rw[List.foldl_cons]
  rw[hr,ih hs q];constructor
  ·rintro ⟨r, h, w⟩
   rw[Nat.testBit_and,Bool.and_eq_true,z32a hm] at h;obtain⟨⟨q0,g1,g2⟩,g3⟩:=h;exact⟨q0,g1,Walk.cons (a:=z3ea N) g2 g3 w⟩
  ·rintro ⟨q0, h, w⟩
   cases w with
   | @cons _ r _ _ _ e kk w=>
    refine⟨r,?_,w⟩;rw[Nat.testBit_and,Bool.and_eq_true,z32a hm];exact⟨⟨q0,h,e⟩,kk⟩
theorem z46f(c:UInt8)(s:zf):z2bc N (c::s)=true↔z410 (z3ea N) ((c::s).map UInt8.toNat):=by
 have hs:N.first&&&N.ta.getD c.toNat 0<18446744073709551616:=zac k.f
 have hb:(runN N (true,N.first&&&N.ta.getD c.toNat 0) s).1=true:=by
  have:∀(s:zf) (m:Nat),(runN N (true,m) s).1=true:=by
   intro s
   induction s with
   |nil=>exact fun _=>rfl
   |cons c s ih=>exact fun m=>ih _
  exact this s _
 show z132 N (runN N (true,N.first&&&N.ta.getD c.toNat 0) s)=true↔_;unfold z132;rw[if_pos hb,decide_eq_true_eq,and_ne];constructor
 ·rintro ⟨q', h1, h2⟩
  obtain⟨q,g1,w⟩:=(z4ad k s hs q').1 h1;rw[Nat.testBit_and,Bool.and_eq_true] at g1;exact⟨q,q',g1.1,g1.2,h2,w⟩
 ·rintro ⟨q, q', g1, g2, g3, w⟩
  refine⟨q',(z4ad k s hs q').2 ⟨q,?_,w⟩,g3⟩;rw[Nat.testBit_and,Bool.and_eq_true];exact⟨g1,g2⟩
end
theorem z36e{n i:Nat}:(List.replicate n 0).getD i 0=0:=by
 rw[List.getD_eq_getElem?_getD,List.getElem?_replicate]
 split<;>rfl
theorem z4b3{t:Nd}(h:(zfa t 0).2≤64):Rep (z42 t zeroNet 0).1 (zfa t 0).1∧(∀q r,bitE (z385 t) q r↔(zfa t 0).1.E q r)∧(∀r c,c<256→(z44f (z385 t) r c↔(zfa t 0).1.K r c)):=by
 have r:=z216 t z244 h;refine⟨r.p,fun q x=>(r.n.E q x).trans ⟨fun h=>h.elim (fun h=>?_) (fun h=>h),.inr⟩,fun x c hc=>(r.n.K x c hc).trans ⟨fun h=>h.elim (fun h=>?_) (fun h=>h),.inr⟩⟩
 ·unfold bitE at h
  rw[show zeroNet.fo=List.replicate 64 0 from rfl,z36e,Nat.zero_testBit] at h;cases h
 ·unfold z44f at h
  rw[show zeroNet.ta=List.replicate 256 0 from rfl,z36e,Nat.zero_testBit] at h;cases h
theorem raw_fits{t:Nd}(h:(zfa t 0).2≤64){s:List Nat}(hc:∀c∈s,c<256):z410 (z3ea (z385 t)) s↔z410 (zfa t 0).1 s:=by
 obtain⟨r1,r2,r3⟩:=z4b3 h
 have w1:∀{q q':Nat} {s:List Nat},Walk (z3ea (z385 t)) q s q'→(∀c∈s,c<256)→Walk (zfa t 0).1 q s q':=by
  intro q q' s w
  induction w with
  |nil=>exact fun _=>.nil
  |cons e kk _ ih=>exact fun hc=>.cons ((r2 _ _).1 e) ((r3 _ _ (hc _ List.mem_cons_self)).1 kk) (ih fun c h=>hc c (List.mem_cons_of_mem _ h))
 have w2:∀{q q':Nat} {s:List Nat},Walk (zfa t 0).1 q s q'→(∀c∈s,c<256)→Walk (z3ea (z385 t)) q s q':=by
  intro q q' s w
  induction w with
  |nil=>exact fun _=>.nil
  |cons e kk _ ih=>exact fun hc=>Walk.cons (a:=z3ea (z385 t)) ((r2 _ _).2 e) ((r3 _ _ (hc _ List.mem_cons_self)).2 kk) (ih fun c h=>hc c (List.mem_cons_of_mem _ h))
 cases s with
 |nil=>exact .rfl
 |cons c s=>
  have h1:=hc c List.mem_cons_self;have h2:=fun c h=>hc c (List.mem_cons_of_mem _ h);constructor
  ·rintro ⟨q, q', g1, g2, g3, w⟩
   exact⟨q,q',(r1.F q).1 g1,(r3 _ _ h1).1 g2,(r1.L q').1 g3,w1 w h2⟩
  ·rintro ⟨q, q', g1, g2, g3, w⟩
   exact⟨q,q',(r1.F q).2 g1,(r3 _ _ h1).2 g2,(r1.L q').2 g3,w2 w h2⟩
theorem z46e{t:Nd}(h:(zfa t 0).2≤64)(s:zf):z2bc (zde t) s=true↔Lang t (s.map UInt8.toNat):=by
 have fr:=z231 t 0
 cases s with
 |nil=>
  have e:z2bc (zde t) []=(zfa t 0).1.e:=(z4b3 h).1.e;rw[e];exact fr.e
 |cons c s=>
  have hc:∀x∈(c::s).map UInt8.toNat,x<256:=fun x hx=>by
   obtain⟨y,_,rfl⟩:=List.mem_map.1 hx;exact y.toNat_lt
  rw[z46f (z429 t) c s];exact(z4a0 (z340 t) hc).trans ((raw_fits h hc).trans fr.f)
theorem inW_zero(i:Nat):inW z94 i=false:=by
 unfold inW z94
 have:([0,0,0,0]:List Nat).getD (i/64) 0=0:=by
  rw[List.getD_eq_getElem?_getD]
  match i/64 with
  |0=>rfl
  |1=>rfl
  |2=>rfl
  |3=>rfl
  |_+4=>rfl
 rw[this,Nat.zero_testBit]
theorem inW_add{w:List Nat}(hw:WordsOk w){c i:Nat}(hc:c<256):inW (addW w c) i=(inW w i||decide (i=c)):=by
 unfold inW addW;have hl:=hw.len
 by_cases h:c/64=i/64
 ·rw [← h, List.getD_eq_getElem?_getD, List.getElem?_set_self (by omega), Option.getD_some, Nat.testBit_or, Nat.testBit_two_pow]
  congr 1
  refine decide_eq_decide.2 ⟨fun h2=>by omega,fun h2=>by rw[h2]⟩
 ·rw[List.getD_eq_getElem?_getD,List.getElem?_set_ne h, ←List.getD_eq_getElem?_getD,decide_eq_false (by intro h2;exact h (by rw[h2])),Bool.or_false]
def oneB(c:UInt8):Nd:=z3c7 c.toNat
theorem at?_app(pre rest:zf)(i:Nat):at? (pre++rest) (pre.length+i)=(rest[i]?).map UInt8.toNat:=by
 unfold at?
 rw[List.getElem?_append_right (by omega),show pre.length+i - pre.length=i by omega]
theorem z43b{r:Res}:∀(rest pre:zf) (l:List Nd),FlatP (z286 (pre++rest)) (pre++rest) l pre.length r→r=.ok (z1aa 3 (l++rest.map oneB),(pre++rest).length)
 |[],pre,l,k=>by
  cases k with
  |stop s=>simp
  |bad s h=>simp at s
  |more s h m=>simp at s
 |c::rest,pre,l,k=>by
  have hc:=at?_app pre (c::rest) 0;rw[Nat.add_zero] at hc
  have hp:z286 (pre++c::rest) pre.length=.ok (z3c7 c.toNat,pre.length+1):=by
   unfold z286;rw[hc];rfl
  cases k with
  |stop s=>simp at s;omega
  |bad s h=>rw[hp] at h;cases h
  |more s h m=>
   rw[hp] at h;cases h;have e:pre++c::rest=(pre++[c])++rest:=by simp
   have m':FlatP (z286 ((pre++[c])++rest)) ((pre++[c])++rest) (l++[oneB c]) (pre++[c]).length r:=by
    rw[←e,List.length_append];exact m
   have:=z43b rest (pre++[c]) (l++[oneB c]) m';rw[this, ←e]
   simp
mutual
def cntN:Nd→Nat
 | .mk op _ ks=>if op=2 then 1 else z486 ks
def z486:List Nd→Nat
 |[]=>0
 |k::ks=>cntN k+z486 ks
end
mutual
theorem z291:∀(t:Nd) (u:Nat),(zfa t u).2≤u+cntN t
 | .mk op w ks,u=>by
  rw[zfa,cntN];have h1:=z44c ks noF u;have h2:=z458 ks badF u;have h3:=headG_cnt ks u
  by_cases e2:op=2
  ·rw [if_pos e2, if_pos e2]
   exact Nat.le_refl _
  rw[if_neg e2,if_neg e2]
  split
  ·exact h1
  split
  ·exact h2
  split
  ·exact h3
  split
  ·exact h3
  split
  ·exact h3
  ·exact Nat.le_add_right _ _
theorem z44c:∀(ks:List Nd) (a:Frag) (u:Nat),(z488 ks a u).2≤u+z486 ks
 |[],_,_=>Nat.le_refl _
 |k::ks,a,u=>by
  have h1:=z291 k u;have h2:=z44c ks (z44d a (zfa k u).1) (zfa k u).2;rw[z488,z486];omega
theorem z458:∀(ks:List Nd) (a:Frag) (u:Nat),(z491 ks a u).2≤u+z486 ks
 |[],_,_=>Nat.le_refl _
 |k::ks,a,u=>by
  have h1:=z291 k u;have h2:=z458 ks (altF a (zfa k u).1) (zfa k u).2;rw[z491,z486];omega
theorem headG_cnt:∀(ks:List Nd) (u:Nat),(z1c5 ks u).2≤u+z486 ks
 |[],_=>Nat.le_refl _
 |k::ks,u=>by
  have h1:=z291 k u;rw[z1c5,z486];omega
end
theorem joinN_cnt{op:Nat}(ho:op≠2):∀l:List Nd,cntN (z1aa op l)≤z486 l
 |[]=>by
  show (if 1=2 then 1 else z486 [])≤_;exact Nat.le_refl _
 |[t]=>Nat.le_add_right _ _
 |a::b::l=>by
  show (if op=2 then 1 else z486 (a::b::l))≤_;rw[if_neg ho];exact Nat.le_refl _
theorem z448:∀u:zf,z486 (u.map oneB)=u.length
 |[]=>rfl
 |c::u=>by
  rw[List.map_cons,z486,z448 u,List.length_cons,Nat.add_comm];rfl
theorem z474(s:List Nat):∀l:List Nd,Lang (z1aa 3 l) s↔LCat l s
 |[]=>.rfl
 |[_]=>(z23a s).symm
 |_::_::_=>.rfl
theorem z426(c:UInt8)(s:List Nat):Lang (oneB c) s↔s=[c.toNat]:=by
 have hc:c.toNat<256:=c.toNat_lt
 have:∀x,inW (z1e3 z94 c.toNat 1) x=decide (x=c.toNat):=fun x=>by
  show inW (addW z94 c.toNat) x=_;rw[inW_add z74 hc,inW_zero,Bool.false_or]
 show (∃x,s=[x]∧inW (z1e3 z94 c.toNat 1) x=true)↔_;constructor
 ·rintro ⟨x, rfl, h⟩
  rw[this,decide_eq_true_eq] at h;rw[h]
 ·rintro rfl
  exact⟨_,rfl,by rw[this,decide_eq_true_eq]⟩
theorem z2ae:∀(u:zf) (s:List Nat),LCat (u.map oneB) s↔s=u.map UInt8.toNat
 |[],_=>.rfl
 |c::u,s=>by
  rw[List.map_cons,List.map_cons,LCat];constructor
  ·rintro ⟨s1, s2, rfl, h1, h2⟩
   rw[z426] at h1;rw[z2ae u] at h2;rw[h1,h2];rfl
  ·rintro rfl
   exact⟨[c.toNat],_,rfl,(z426 c _).2 rfl,(z2ae u _).2 rfl⟩
def z431(u:zf):Nd:=z1aa 3 (u.map oneB)
theorem lit_lang(u s:zf)(hu:u.length≤64):z2bc (zde (z431 u)) s=true↔s=u:=by
 have h1:=z291 (z431 u) 0;have h2:=joinN_cnt (op:=3) (by decide) (u.map oneB);rw[z448] at h2;rw[z46e (Nat.le_trans h1 (by show 0+cntN (z1aa 3 (u.map oneB))≤64;omega)) s];refine(z474 _ _).trans ((z2ae u _).trans ⟨fun h=>?_,fun h=>by rw[h]⟩);exact List.map_inj_right (fun a b e=>UInt8.toNat_inj.1 e) |>.1 h
theorem z415{u:zf}{r:Except Nat Nd}(h:TreeP u 1 r):r=.ok (z431 u):=by
 generalize hk:(1:Int)=k at h
 cases h with
 |lit a=>
  have:=z43b (r:=_) u [] [] (by rw[List.nil_append];exact a);rw[this];rfl
 |glob a=>cases hk
 |re_bad a=>cases hk
 |re_end a n=>cases hk
 |re a=>cases hk
section
variable {h:AHeap}{mb ab:Nat}{S nbs:List Nat}{m:MS}
theorem MatS.nlt(k:MatS h mb ab S nbs m):∀b∈nbs,b<h.next:=by
 obtain⟨az,bv,k1,k2,rfl,rfl,_⟩:=k;intro b hb;obtain⟨a,ha,rfl⟩:=List.mem_map.1 hb;exact(k1.arms.net a ha).2.2
end
section
variable {n d mb ab:Nat}{h:AHeap}{S nbs:List Nat}{s:zf}{m:MS}{v:AV}{ps:List (Int×zf)}{ts:List Nd}
theorem feed_ok(hn:18446744073709551616<n)(km:MatS h mb ab S nbs m)(hT:HasTz h)(hx:h.ex=[])(hs:s.length<80000)(hb:m.2.2+m.2.1.length+s.length<80000):
  ∃h' S',world n (d+6) 19 [.ptr mb 0,z1f s] h=some (.ret (.tup [.int .i64 ((z157 m s 0).1:Int),.agg (feedC (z157 m s 0).2.1),.bool (z157 m s 0).2.1.isSome]),h')∧MatS h' mb ab S' nbs (z157 m s 0).2.2∧Tch S h h'∧∀b∈S',b∈S∨h.next≤b:=by
 suffices hK:Wp (world n (d+6) 19 [.ptr mb 0,z1f s] h) fun r h'=>∃S',r=.ret (.tup [.int .i64 ((z157 m s 0).1:Int),.agg (feedC (z157 m s 0).2.1),.bool (z157 m s 0).2.1.isSome])∧MatS h' mb ab S' nbs (z157 m s 0).2.2∧Tch S h h'∧∀b∈S',b∈S∨h.next≤b by
  obtain⟨_,h',e,S',rfl,k⟩:=hK;exact⟨h',S',e,k⟩
 rw[z1e2];unfold z7a;have ll:=z7b s;refine y9 (Mem.nil [] h) fun h2 M2=>?_;have t2:=M2.tch;have hlt:=M2.at0.2.1;have n2:=t2.1
 have hS:h.next ∉ S:=fun hb=>by
  have:=km.lt _ hb;omega
 have hnb:∀b∈nbs,b≠h.next:=fun b hb e=>by
  have:=km.nlt b hb;omega
 refine Wp.outK (eqMat mb 0 h2) (Wp.obind (z5 _) (y6 rfl ?_));refine y1e fun k16 ek=>?_;refine z3b4 (n:=n) (d:=d) (h:=h) (nbs:=nbs) hn hs s.length 0 n m S h2 (by omega) (Nat.zero_add _) hb (km.tch t2 (fun _ _=>by simp) (fun _ _=>by simp)) (hT.tch t2 (by simp)) (by rw[t2.2.1,hx]) M2.at0.1 hlt hS hnb (fun H' S' z' k' t' s' l'=>?_) (fun H' S' z z' k' t' s'=>?_)
 ·rw [List.drop_zero] at z' k' l'
  rw[ek,z10];have kh:=M2.at0.1.tch t' hlt hS;refine Wp.stAll kh rfl rfl rfl fun h4 k4 t4 n4=>?_;refine Wp.obind (y12 k4 rfl) ?_;rw[z'];refine Wp.ret ⟨S',by rw[l',ll];rfl,k'.tch t4 (fun b hb hm=>?_) (fun b hb hm=>hnb b hb (List.mem_singleton.1 hm)),?_,fun b hb=>(s' b hb).imp id fun h=>by omega⟩
  ·have hm := List.mem_singleton.1 hm
   rcases s' b hb with hb|hb
   ·exact hS (hm▸hb)
   ·omega
  ·refine ((t2.mono fun b hb => nomatch hb).trans t').trans' t4 fun b hb => ?_
   rw[List.mem_singleton.1 hb];exact .inr (Nat.le_refl _)
 ·rw [List.drop_zero] at z' k' ⊢
  rw[z'];refine⟨S',rfl,k',(t2.mono fun b hb=>nomatch hb).trans' t' fun b hb=>?_,fun b hb=>(s' b hb).imp id fun h=>by omega⟩
  rcases List.mem_cons.1 hb with hb|hb
  ·rw [hb]
   exact .inr (Nat.le_refl _)
  ·exact .inl hb
def z438(ts:List Nd):MS:=(ts.map fun t=>(zde t,[]),[],0)
theorem bldMat(ab L:Nat):z2d6 Tryd.prog TMat [(0,.sl ab 0 L 2)]=some (matC ab L .nsl 0):=by kernel_rfl
theorem new_ok(hn:1000<n)(k:May n d ps ts)(hx:h.ex=[])(kp:Slc h.next h 2 v (ps.map patC)):∃h' mb ab S nbs,world n (d+3) 16 [v] h=some (.ret (.tup [.ptr mb 0,.int .i64 0]),h')∧MatS h' mb ab S nbs (z438 ts)∧Tch [] h h'∧(∀b∈S,h.next≤b)∧(∀b∈nbs,h.next≤b)∧mb<h'.next∧h.next≤mb:=by
 suffices hK:Wp (world n (d+3) 16 [v] h) fun r h'=>∃mb ab S nbs,r=.ret (.tup [.ptr mb 0,.int .i64 0])∧MatS h' mb ab S nbs (z438 ts)∧Tch [] h h'∧(∀b∈S,h.next≤b)∧(∀b∈nbs,h.next≤b)∧mb<h'.next∧h.next≤mb by
  obtain⟨_,h',e,mb,ab,S,nbs,rfl,k⟩:=hK;exact⟨h',mb,ab,S,nbs,e,k⟩
 rw[z3cc];unfold z17a;obtain⟨ab,h1,az,e1,t1,ka,ha,hab,hblk,hnbs,hB⟩:=z3c0 hn k hx kp;refine Wp.callN e1 (Wp.obind (z17d _ _) (Wp.obind (z17c _ _ _) (Wp.obind (z4 _ _) ?_)))
 ((with_reducible refine Wp.lett ?_))
 refine y6 rfl ?_;refine Wp.obind (bldMat _ _) ?_;refine y19 (Mem.nil [] h1) rfl fun h2 M2=>?_;have t2:=M2.tch
 have hlen:az.length=ts.length:=by
  have:=congrArg List.length ha;rw[List.length_map,List.length_map] at this;exact this
 have hts:=k.2.2.len;have h8:=k.2.1;have n1:=t1.1;have hl:=M2.at0.2.1;have hal:=ka.hab;refine Wp.ret ⟨h1.next,ab,z1e6 h1.next ab az .nsl,az.map (·.nb),rfl,⟨az,.nsl,⟨M2.at0.1,hl,ka.tch t2 (by simp) (fun _ _=>by simp) (fun _ _=>by simp),.inl ⟨rfl,rfl⟩,fun hb=>?_,fun a ha e=>?_,(fun _ h=>nomatch h),by omega⟩,ha,rfl,rfl,Nat.zero_le _,fun a ha=>?_,fun h=>absurd rfl h⟩,t1.trans t2,fun b hb=>?_,fun b hb=>?_,hl,n1⟩
 ·rw [hblk] at hb
  have:=List.mem_singleton.1 hb;omega
 ·have := (ka.net a ha).2.2
  omega
 ·have := hB a ha
  exact⟨Nat.le_trans this.1 (Nat.zero_le _),fun x hx=>absurd (this.2 x hx) (Nat.not_lt_zero _)⟩
 ·rcases List.mem_cons.1 hb with hb | hb
  ·omega
  ·rw [hblk] at hb
   have hb:b∈[ab]:=hb;rw[List.mem_singleton.1 hb];exact hab
 ·obtain ⟨a, ha, rfl⟩ := List.mem_map.1 hb
  exact hnbs a ha
end
theorem z366{n d:Nat}{k:Int}{u:zf}{t:Nd}(hk:k=1∨k=2∨k=3)(hu:u.length≤64)(ht:∀r,TreeP u k r→r=.ok t)(he:z164 t=false)(hn:18446744073709551620<n)(hd:1100≤d):ArmOk n d (k,u) t:=by
 obtain⟨D,rfl⟩:∃D,d=D+3:=⟨d - 3,by omega⟩;obtain⟨r,r1,_,r3⟩:=(z45d (u:=u) (by omega) hk).2 (by omega)
 obtain rfl:=ht r r1
 have hz:=z3d1 r1;refine⟨r1,hu,he,fun h hx=>⟨of_ok (z45e r1) (by omega) (by omega) hn (fun h hx=>r3 (by omega) (by omega) hx) (by rw[hx];rfl),?_⟩⟩;have:=empty_w (n:=n) (D:=D+3) (k:=k) (u:=u) (t:=t) (h:=h) (by omega) (by omega) (by omega) (fun h hx=>r3 (by omega) (by omega) hx) (by rw[hx];rfl);rw[he] at this;exact this
def exP:Nd:=.mk 6 z94 [z3c7 97]
abbrev exV:zf:=[97,43]
theorem exV0:¬z45f exV 0:=by unfold z45f;decide
theorem exV_part:PartP exV 0 (.ok (exP,2)):=PartP.sign (i:=0) (j:=1) (t:=z3c7 97) (.one (c:=97) rfl (by unfold z10e;decide) (by decide)) (by decide)
theorem exV_row:RowP exV [] 0 (.ok (exP,2)):=.more exV0 exV_part (RowP.stop (l:=[exP]) (i:=2) (.inl rfl))
theorem z3fc:AltP exV [] 0 (.ok (exP,2)):=AltP.last (l:=[]) (t:=exP) exV_row (by decide)
theorem exV_tree(r:Except Nat Nd)(h:TreeP exV 3 r):r=.ok exP:=by
 generalize hk:(3:Int)=k at h
 cases h with
 |lit a=>cases hk
 |glob a=>cases hk
 |re_bad a=>cases ze3 a z3fc
 |re_end a n=>
  cases ze3 a z3fc
  exact absurd rfl n
 |re a=>
  cases ze3 a z3fc
  rfl
abbrev exPs:List (Int×zf):=[(1,[98]),(3,exV)]
abbrev exTs:List Nd:=[z431 [98],exP]
theorem exMay{n d:Nat}(hn:18446744073709551620<n)(hd:1100≤d):May n d exPs exTs:=
 ⟨by decide,by decide,.cons (z366 (.inl rfl) (by decide) (fun r h=>z415 h) rfl hn hd) (.cons (z366 (.inr (.inr rfl)) (by decide) exV_tree rfl hn hd) .nil)⟩
set_option maxRecDepth 100000 in
theorem ex_first:z129 (exTs.map fun t=>(zde t,[])) [120,97,98] 0=some (1,1,2):=by kernel_rfl
set_option maxRecDepth 100000 in
theorem ex_feed1:(z157 (z438 exTs) [120,97,98] 0).1=2:=by kernel_rfl
set_option maxRecDepth 100000 in
theorem ex_feed2:(z157 (z438 exTs) [120,97,98] 0).2.1=some (1,1,2):=by kernel_rfl
theorem flatHit:flatB Tryd.prog z3c9 [1,1,1]=true:=by kernel_rfl
theorem eqHit(a b c x y z:Int):zaa Tryd.prog z3c9 (.agg [.int .i64 a,.int .i64 b,.int .i64 c]) (.agg [.int .i64 x,.int .i64 y,.int .i64 z])=some ((a == x)&&((b == y)&&((c == z)&&true))):=eq_flat flatHit (z35b rfl (z263 _ _ _) (z35b rfl (z263 _ _ _) (z35b rfl (z263 _ _ _) rfl)))
theorem keepA_w(n d:Nat)(h:AHeap):world n (d+1) 24 [z1f [97]] h=some (.ret (z1f [97]),h):=by
 apply Wp.eq;rw[z372];refine y4c ?_
 suffices hK:Wp (z143 (world n d) n [97] h) fun r h'=>r=.ret (z1f [97])∧h'=h from hK.mono fun r h' ⟨e,t⟩=>⟨by rw[t];exact(Tch.refl [] h).above,by rw[e];rfl,e,rfl⟩
 exact⟨.ret (z1f [97]),h,by kernel_rfl,rfl,rfl⟩
theorem bldPats(h:AHeap):z154 Tryd.prog h 22 2 [(0,.agg ([.int .i64 1,z1f ([98]:zf)]:List AV)),(1,.agg ([.int .i64 3,z1f ([97,43]:zf)]:List AV))]=zc8 h TPat [.int .i64 1,z1f [98],.int .i64 3,z1f [97,43]] 2 2:=by kernel_rfl
set_option maxRecDepth 100000 in
theorem works_w{n d:Nat}{h:AHeap}(hn:18446744073709551620<n)(hd:1200≤d)(hT:HasTz h)(hx:h.ex=[]):world n (d+1) 12 [] h=some (.ret (.bool true),h):=by
 apply Wp.eq;rw[z335];refine y4c ?_
 suffices hK:Wp (zf8 (world n d) n h) fun r h'=>r=.ret (.bool true)∧Tch [] h h' from hK.mono fun r h' ⟨e,t⟩=>⟨t.above,by rw[e];rfl,e,rfl⟩
 obtain⟨D,rfl⟩:∃D,d=D+6:=⟨d - 6,by omega⟩;unfold zf8;have hxM:∀{h1:AHeap} {rs:List zd8},Abs.Mem [] h h1 rs→h1.ex=[]:=fun M=>by rw[M.ex,hx]
 have hTM:∀{h1:AHeap} {rs:List zd8},Abs.Mem [] h h1 rs→HasTz h1:=fun M=>hT.tch M.tch (by simp);refine y2f (Mem.nil [] h) (bldPats h) rfl (by rw[hx];rfl) fun h1 M1=>?_;have slc:∀{h2:AHeap},RowH h2 h.next TPat [.int .i64 1,z1f [98],.int .i64 3,z1f [97,43]]→h.next<h2.next→Slc h2.next h2 2 (.sl h.next 0 2 2) (exPs.map patC):=fun k hb=>k.slc (ls:=exPs.map patC) rfl (by decide) (by decide) hb;obtain⟨h2,mb,ab,S,nbs,e2,km,t2,hS,hnb,hm1,hm2⟩:=new_ok (n:=n) (d:=D+3) (h:=h1) (by omega) (exMay hn (by omega)) (hxM M1) (slc M1.at0.1 M1.at0.2.1);refine Wp.callN e2 ?_;have M2:=M1.keep t2
 repeat(first|(with_reducible first|refine y7 (fun _ _=>?_)|refine Wp.lett ?_|(apply Wp.obind;first|exact z4 _ _|exact z5 _|exact z17d _ _|exact z17c _ _ _))|((with_reducible refine y6 ?_ ?_);first|(with_reducible rfl)|((with_reducible apply z1c8);omega))|(with_reducible first|(apply Wp.outK;exact eqMat _ _ _)|refine yd (by assumption) ?_))
 obtain⟨h3,e3,t3⟩:=z1d7 (n:=n) (d:=D) (h:=h2) (s:=[120,97,98]) hn (exMay hn (by omega)) (hxM M2) (hTM M2) (slc M2.at0.1 M2.at0.2.1) (by decide);rw[ex_first,Option.isSome_some] at e3;refine Wp.callN e3 ?_;have M3:=M2.keep t3;have km3:=km.tch t3 (fun _ _=>by simp) (fun _ _=>by simp);refine Wp.obind (z17d _ _) (Wp.obind (z12 _) (Wp.obind (z17c _ _ _) (Wp.obind (z5 _) ?_)));refine y9 (Mem.nil [] h3) fun h4 N4=>?_;rw[z10];refine y11 N4 rfl rfl rfl fun h5 N5=>?_;have t35:=N5.tch;have t05:Tch [] h h5:=M3.tch.trans t35;obtain⟨h6,S',e6,km6,t6,s6⟩:=feed_ok (n:=n) (d:=D) (s:=[120,97,98]) (by omega) (km3.tch t35 (fun _ _=>by simp) (fun _ _=>by simp)) (hT.tch t05 (by simp)) (by rw[t05.2.1,hx]) (by decide) (by decide);rw[ex_feed1,ex_feed2,Option.isSome_some] at e6;refine Wp.callN e6 ?_
 have hpS:h3.next ∉ S:=fun hb=>by
  have:=km.lt _ hb;have:=t3.1;omega
 have r6:=N5.at0.1.tch t6 N5.at0.2.1 hpS;have hp6:h3.next<h6.next:=Nat.lt_of_lt_of_le N5.at0.2.1 t6.1;refine Wp.obind (z17d _ _) (Wp.obind (z4 _ _) (Wp.obind (z17c _ _ _) (Wp.obind (z12 _) (Wp.obind (extT_2 _ _ _ _) (Wp.obind (z5 _) ?_)))));refine y9 (Mem.nil [] h6) fun h7 K7=>?_;rw[z10];refine y11 K7 rfl rfl rfl fun h8 K8=>?_;have t68:=K8.tch
 have t08:Tch [] h h8:=(t05.trans' t6 fun b hb=>by
  have:=hS b hb;have:=M1.tch.1
  right
  omega).trans t68
 have r8:z16 h8 3 (.ptr h3.next 0)=some [.int .i64 1,.int .i64 1,.int .i64 2]:=y12 (r6.tch t68 hp6 (by simp)) rfl;have q8:z16 h8 3 (.ptr h6.next 0)=some [.int .i64 1,.int .i64 1,.int .i64 2]:=y12 K8.at0.1 rfl;have eq1:zaa Tryd.prog z3c9 (.agg [.int .i64 1,.int .i64 1,.int .i64 2]) (.agg [.int .i64 1,.int .i64 1,.int .i64 2])=some true:=eqHit 1 1 2 1 1 2;have kw:=keepA_w n (D+5) h8
 repeat(first|(with_reducible first|refine y7 (fun _ _=>?_)|refine Wp.lett ?_|(apply Wp.obind;first|exact r8|exact q8|exact eq1|exact z5b _))|((with_reducible refine y8 ?_ ?_);first|(with_reducible rfl)|((with_reducible apply z83);omega))|(with_reducible first|(apply Wp.callN;exact kw)|refine yd (by assumption) ?_))
 exact Wp.ret ⟨rfl,t08⟩
def z37f(s:zf)(f t:Nat):zf:=(s.drop f).take (t - f)
def z4a7(N:Nt)(s:zf)(f i:Nat):Bool×Nat:=runN N (false,0) (z37f s f i)
def z159(N:Nt)(s:zf)(g i:Nat):List WayW:=((List.range' g (i - g)).map fun f=>(z4a7 N s f i,f)).filter fun x=> !z194 N x.1
def z47f(N:Nt)(s:zf)(g t:Nat):Option Nat:=(List.range' g (t - g)).find? fun f=>z2bc N (z37f s f t)
section
variable {N:Nt}{s:zf}{f g i t:Nat}
theorem z4ac:z37f s f f=[]:=by
 unfold z37f;rw[Nat.sub_self,List.take_zero]
theorem z4ab(hf:f≤i)(hi:i<s.length):z37f s f (i+1)=z37f s f i++[s[i]]:=by
 unfold z37f;rw[show i+1 - f=(i - f)+1 by omega, ←List.take_append_getElem (l:=s.drop f) (i:=i - f) (by rw[List.length_drop];omega),List.getElem_drop]
 congr 2
 congr 1
 omega
theorem z4a6:z4a7 N s f f=(false,0):=by
 unfold z4a7;rw[z4ac];rfl
theorem z379(hf:f≤i)(hi:i<s.length):z4a7 N s f (i+1)=stepN N (z4a7 N s f i) (s[i]).toNat:=by
 unfold z4a7;rw[z4ab hf hi];unfold runN;rw[List.foldl_append];rfl
theorem z434(c:Nat):∀l:List WayW,z350 N c l=(l.map fun x=>(stepN N x.1 c,x.2)).filter fun x=> !z194 N x.1
 |[]=>rfl
 |x::l=>by
  rw[z350,List.map_cons,List.filter_cons, ←z434 c l]
  cases z194 N (stepN N x.1 c)<;>rfl
theorem z2d1(c:Nat):∀l:List WayW,((l.filter fun x=> !z194 N x.1).map fun x=>(stepN N x.1 c,x.2)).filter (fun x=> !z194 N x.1)=(l.map fun x=>(stepN N x.1 c,x.2)).filter fun x=> !z194 N x.1
 |[]=>rfl
 |x::l=>by
  rw[List.filter_cons];cases hd:z194 N x.1 with
  |true=>
   have:=z3b8 hd c;rw[if_neg (by decide),z2d1 c l,List.map_cons,List.filter_cons];show _=if (!z194 N (stepN N x.1 c))=true then _ else _
   rw[this];rfl
  |false=>
   rw[if_pos (show (!false)=true from rfl),List.map_cons,List.filter_cons,List.map_cons,List.filter_cons,z2d1 c l]
theorem z466(h:g≤i):List.range' g (i+1 - g)=List.range' g (i - g)++[i]:=by
 rw[show i+1 - g=(i - g)+1 by omega,List.range'_concat]
 congr 2
 omega
theorem z377(hg:g≤i)(hi:i<s.length):((((List.range' g (i - g)).map fun f=>(z4a7 N s f i,f))++[((false,0),i)]).map fun (x:WayW)=>(stepN N x.1 (s[i]).toNat,x.2))=(List.range' g (i+1 - g)).map fun f=>(z4a7 N s f (i+1),f):=by
 rw[z466 hg,List.map_append,List.map_append,List.map_map]
 congr 1
 ·refine List.map_congr_left fun f hf => ?_
  have:=(List.mem_range'_1.1 hf);show (stepN N (z4a7 N s f i) (s[i]).toNat,f)=_;rw[z379 (by omega) hi]
 ·show [(stepN N (false, 0) (s[i]).toNat, i)] = [(z4a7 N s i (i + 1), i)]
  rw[z379 (Nat.le_refl _) hi,z4a6]
theorem z49a(hg:g≤i)(hi:i<s.length):z350 N (s[i]).toNat (z159 N s g i++[((false,0),i)])=z159 N s g (i+1):=by
 rw[z434,List.map_append,List.filter_append];unfold z159;rw[z2d1, ←List.filter_append, ←List.map_append,z377 hg hi]
theorem z31a(c f:Nat):∀l:List WayW,l.foldl (accW N c) (some f)=some f
 |[]=>rfl
 |_::l=>z31a c f l
theorem z3a7(c:Nat):∀l:List WayW,hitW N c none l=(l.find? fun x=>z132 N (stepN N x.1 c)).map (·.2)
 |[]=>rfl
 |x::l=>by
  show l.foldl (accW N c) (accW N c none x)=_;rw[List.find?_cons];have e:accW N c none x=if z132 N (stepN N x.1 c)=true then some x.2 else none:=rfl
  rw[e];cases hd:z132 N (stepN N x.1 c) with
  |true=>
   rw[if_pos rfl];exact z31a c x.2 l
  |false=>
   rw[if_neg (by decide)];exact z3a7 c l
theorem z206(c:Nat):∀l:List WayW,(l.filter fun x=> !z194 N x.1).find? (fun x=>z132 N (stepN N x.1 c))=l.find? fun x=>z132 N (stepN N x.1 c)
 |[]=>rfl
 |x::l=>by
  rw[List.filter_cons,List.find?_cons];cases hd:z194 N x.1 with
  |true=>
   rw[if_neg (by decide),z206 c l,z325 (z3b8 hd c)]
  |false=>
   rw[if_pos (show (!false)=true from rfl),List.find?_cons,z206 c l]
theorem hit_find(hg:g≤i)(hi:i<s.length):hitA (s[i]).toNat i (N,z159 N s g i)=z47f N s g (i+1):=by
 show hitW N (s[i]).toNat none (z159 N s g i++[((false,0),i)])=_
 have e:(z159 N s g i++[((false,0),i)]).find? (fun (x:WayW)=>z132 N (stepN N x.1 (s[i]).toNat))=(((List.range' g (i - g)).map fun f=>(z4a7 N s f i,f))++[((false,0),i)]).find? fun (x:WayW)=>z132 N (stepN N x.1 (s[i]).toNat):=by
  unfold z159;rw[List.find?_append,List.find?_append,z206]
 rw[z3a7,e]
 have e2:∀l:List WayW,(l.find? fun x=>z132 N (stepN N x.1 (s[i]).toNat)).map (·.2)=((l.map fun x=>(stepN N x.1 (s[i]).toNat,x.2)).find? fun x=>z132 N x.1).map (·.2):=by
  intro l;rw[List.find?_map,Option.map_map];rfl
 rw[e2,z377 hg hi,List.find?_map,Option.map_map];unfold z47f;show Option.map (fun f=>f) _=_;rw[Option.map_id']
 congr 1
end
def z2f3(s:zf)(g t:Nat):List Nt→Option (Nat×Nat)
 |[]=>none
 |N::Ns=>match z47f N s g t with
  |some f=>some (0,f)
  |none=>(z2f3 s g t Ns).map fun z=>(z.1+1,z.2)
def z2d9(Ns:List Nt)(s:zf)(g i:Nat):List z331:=Ns.map fun N=>(N,z159 N s g i)
section
variable {s:zf}{g i:Nat}
theorem z378(hg:g≤i)(hi:i<s.length):∀Ns:List Nt,(z4d (s[i]).toNat i (z2d9 Ns s g i)).1=z2f3 s g (i+1) Ns∧(z2f3 s g (i+1) Ns=none→(z4d (s[i]).toNat i (z2d9 Ns s g i)).2=z2d9 Ns s g (i+1))
 |[]=>⟨rfl,fun _=>rfl⟩
 |N::Ns=>by
  obtain⟨h1,h2⟩:=z378 hg hi Ns
  have e:z4d (s[i]).toNat i (z2d9 (N::Ns) s g i)=match hitA (s[i]).toNat i (N,z159 N s g i) with
   |some f=>(some (0,f),z395 (s[i]).toNat i (N,z159 N s g i)::z2d9 Ns s g i)
   |none=>((z4d (s[i]).toNat i (z2d9 Ns s g i)).1.map (fun z=>(z.1+1,z.2)),z395 (s[i]).toNat i (N,z159 N s g i)::(z4d (s[i]).toNat i (z2d9 Ns s g i)).2):=rfl
  rw[e,hit_find hg hi,z2f3]
  cases z47f N s g (i+1) with
  |some f=>exact⟨rfl,fun h=>by cases h⟩
  |none=>
   refine⟨congrArg (Option.map fun z:Nat×Nat=>(z.1+1,z.2)) h1,fun h=>?_⟩
   have h3:z2f3 s g (i+1) Ns=none:=by
    cases hh:z2f3 s g (i+1) Ns with
    |none=>rfl
    |some z=>rw[hh] at h;cases h
   show z395 (s[i]).toNat i (N,z159 N s g i)::_=(N,z159 N s g (i+1))::z2d9 Ns s g (i+1);rw[h2 h3]
   congr 1
   show (N,z350 N (s[i]).toNat (z159 N s g i++[((false,0),i)]))=_;rw[z49a hg hi]
def z205(Ns:List Nt)(s:zf):Nat→Nat→Option (Nat×Nat×Nat)
 |0,_=>none
 |k+1,t=>match z2f3 s 0 t Ns with
  |some z=>some (z.1,z.2,t)
  |none=>z205 Ns s k (t+1)
theorem z43c(Ns:List Nt):∀(k i:Nat),i+k=s.length→z129 (z2d9 Ns s 0 i) (s.drop i) i=z205 Ns s k (i+1)
 |0,i,h=>by
  rw[List.drop_of_length_le (by omega)];rfl
 |k+1,i,h=>by
  have hi:i<s.length:=by omega
  obtain⟨h1,h2⟩:=z378 (s:=s) (g:=0) (Nat.zero_le i) hi Ns;rw[List.drop_eq_getElem_cons hi,z129,z205,h1];cases hz:z2f3 s 0 (i+1) Ns with
  |some z=>rfl
  |none=>
   show z129 (z4d (s[i]).toNat i (z2d9 Ns s 0 i)).2 (s.drop (i+1)) (i+1)=_;rw[h2 hz];exact z43c Ns k (i+1) (by omega)
theorem z3f8(ts:List Nd):z129 (ts.map fun t=>(zde t,[])) s 0=z205 (ts.map zde) s s.length 1:=by
 have:=z43c (s:=s) (ts.map zde) s.length 0 (Nat.zero_add _);rw[List.drop_zero] at this;rw[←this]
 congr 1
 unfold z2d9;rw[List.map_map];rfl
end
noncomputable def z18f(call:zc)(t0:AV)(k24:AV→Int→AHeap→R)(self:AV→Int→zf→AHeap→R)(t6_30:AV)(t7_31:Int)(t9:zf)(h_32:AHeap):R:=lett (decide ((z105 t9)>0)) fun (t25:Bool)=>ifB t25 (callN (call 19 [t0,z1f t9] h_32) fun r29 h_38=>obind (z17e 0 r29) fun v30=>obind (avInt .i64 v30) fun t30=>obind (z17e 1 r29) fun v31=>obind (z73 v31) fun t31=>obind (z17e 2 r29) fun v32=>obind (z28 v32) fun t32=>lett (newH h_38 26 [.int .i64 0,.int .i64 0,.int .i64 0]) fun h_46=>obind (z15 h_46 3 t31 (z6 h_38)) fun h_48=>lett (decide (t30<1)) fun (t34:Bool)=>lett (fun (t40:Bool) (h_53:AHeap)=>lett (fun (t55:Bool) (h_56:AHeap)=>ifB t55 (some (.ret (.tup [AV.nsl,.bool false]),h_56)) (lett (IntKind.i64.wrap (t7_31+t30)) fun (t58:Int)=>obind (z303 t9 t30 (z105 t9)) fun t61=>lett (fun (t6_66:AV) (h_67:AHeap)=>self t6_66 t58 t61 h_67) fun k65=>ifB t32 (obind (z16 h_56 3 (z6 h_38)) fun t64=>obind (z2d6 Tryd.prog 82 [(0,.agg t64),(1,.int .i64 t58)]) fun t66=>outK (z154 Tryd.prog h_56 42 1 [(0,.agg t66)]) fun v67 h_70=>outK (z76 Tryd.prog h_70 42 42 t6_30 v67) fun v68 h_72=>k65 v68 h_72) (k65 t6_30 h_56))) fun j55=>ifB t40 (j55 true h_53) (lett (!t32) fun (t43:Bool)=>lett (fun (t54:Bool) (h_75:AHeap)=>j55 t54 h_75) fun j54=>ifB t43 (lett ((t30:Int) != (z105 t9)) fun (t48:Bool)=>lett (fun (t53:Bool) (h_79:AHeap)=>j54 t53 h_79) fun j53=>ifB t48 (j53 true h_53) (obind (z16 h_53 3 (z6 h_38)) fun t50=>obind (zaa Tryd.prog 26 (.agg t50) (.agg ([.int .i64 0,.int .i64 0,.int .i64 0]:List AV))) fun t52=>lett (!t52) fun (t52_84:Bool)=>j53 t52_84 h_53)) (j54 false h_53))) fun j40=>ifB t34 (j40 true h_48) (lett (decide (t30>(z105 t9))) fun (t39:Bool)=>j40 t39 h_48)) (k24 t6_30 t7_31 h_32)
noncomputable def z161(call:zc)(t0:AV)(k24:AV→Int→AHeap→R):Nat→AV→Int→zf→AHeap→R:=zdf (fun _ _ _ _=>none) (z18f call t0 k24)
theorem z2f0(call:zc)(t0:AV)(k24:AV→Int→AHeap→R)(m:Nat):z161 call t0 k24 (m+1)=z18f call t0 k24 (z161 call t0 k24 m):=rfl
noncomputable def z190(call:zc)(n:Nat)(t0:AV)(t1:AV)(k7:AV→AHeap→R)(self:AV→Int→Int→AHeap→R)(t6_11:AV)(t7:Int)(t8:Int)(h_12:AHeap):R:=obind (z15f t1) fun t15=>lett (decide (t8<t15)) fun (t16:Bool)=>ifB t16 (obind (z171 1 t1 t8) fun t21=>obind (z7 h_12 t21) fun v22=>obind (z158 v22) fun t22=>lett (fun (t6_25:AV) (t7_26:Int) (h_27:AHeap)=>lett (IntKind.i64.wrap (t8+1)) fun (t18:Int)=>self t6_25 t7_26 t18 h_27) fun k24=>z161 call t0 k24 n t6_11 t7 t22 h_12) (k7 t6_11 h_12)
noncomputable def z162(call:zc)(n:Nat)(t0:AV)(t1:AV)(k7:AV→AHeap→R):Nat→AV→Int→Int→AHeap→R:=zdf (fun _ _ _ _=>none) (z190 call n t0 t1 k7)
theorem z2f1(call:zc)(n:Nat)(t0:AV)(t1:AV)(k7:AV→AHeap→R)(m:Nat):z162 call n t0 t1 k7 (m+1)=z190 call n t0 t1 k7 (z162 call n t0 t1 k7 m):=rfl
noncomputable def z3a0(call:zc)(n:Nat)(t0:AV)(t1:AV)(h:AHeap):R:=lett (fun (t6:AV) (h_8:AHeap)=>some (.ret (.tup [t6,.bool true]),h_8)) fun k7=>z162 call n t0 t1 k7 n AV.nsl 0 0 h
set_option maxHeartbeats 4000000 in
set_option maxRecDepth 20000 in
theorem law11_all_ok{call:zc}(hc:SaysAll Tryd.prog call){n:Nat}{t0:AV}{t1:AV}{h:AHeap}{rR:ARes}{hR:AHeap}(hF:z3a0 call n t0 t1 h=some (rR,hR)):Says Tryd.prog 22 [t0,t1] h rR hR:=by
 unfold z3a0 at hF;refine sO Tryd.func22 fun w0 m0=>?_;refine wW [(0,t0),(1,t1)] ?_;refine oG fun n1=>W.r ?_;refine oA 4 AV.nsl ?_;refine oA 5 (.bool false) ?_;refine oV [(0,t0),(1,t1)] (n1 ?_);refine oG fun n2=>W.r ?_;refine oA 6 AV.nsl ?_;refine oV [(0,t0),(1,t1),(6,AV.nsl)] (n2 ?_);refine oG fun n3=>W.r ?_;refine oA 7 (.int .i64 0) ?_;refine oV [(0,t0),(1,t1),(6,AV.nsl),(7,.int .i64 0)] (n3 ?_);refine W.s (fun K4 n4 e4 q4 p4=>?_);refine oG fun n5=>W.r ?_;refine oA 8 (.int .i64 0) ?_;refine oV [(0,t0),(1,t1),(6,AV.nsl),(7,.int .i64 0),(8,.int .i64 0)] (n5 ?_);obtain⟨k7,e7,hF⟩:=z8 hF
 have J7:∀(t6:AV) (h_8:AHeap),k7 t6 h_8=some (rR,hR)→Go w0 m0 (Func.ntmps Tryd.f22) (K4 .normal) [(6,t6)] [] h_8:=by
  intro t6 h_8 hF;rw[e7] at hF;refine n4 ?_;refine oG fun n9=>W.r ?_;refine oA 69 t6 ?_;refine oA 4 t6 ?_;refine oA 5 (.bool true) ?_;refine oV [(4,t6),(5,.bool true)] (n9 (oY ?_));exact lZ hF [.tmp 4,.tmp 5] [t6,.bool true] (rT (rT zd))
 refine yc (by kernel_rfl) (fun K6 n6 s6 o6 q6 p6=>?_);refine y14 (by kernel_rfl) (fun I10 K10 b10 n10 e10 q10 p10=>?_)
 have L10:∀(m:Nat) (t6_11:AV) (t7:Int) (t8:Int) (h_12:AHeap),z162 call n t0 t1 k7 m t6_11 t7 t8 h_12=some (rR,hR)→Go w0 m0 (Func.ntmps Tryd.f22) I10 [(0,t0),(1,t1),(6,t6_11),(7,.int .i64 t7),(8,.int .i64 t8)] [] h_12:=by
  intro m
  induction m with
  |zero=>intro t6_11 t7 t8 h_12 hF;cases hF
  |succ m ih10=>
   intro t6_11 t7 t8 h_12 hF;rw[z2f1] at hF;unfold z190 at hF;refine b10 ?_;refine W.s (fun K13 n13 e13 q13 p13=>?_);refine oG fun n14=>W.r ?_;refine oA 13 (.int .i64 t8) ?_;refine oA 14 t1 ?_;refine oM 15 30 9 hF fun t15 hF=>?_;refine oB 16 hF fun t16 hF=>?_;refine oV [(0,t0),(1,t1),(6,t6_11),(7,.int .i64 t7),(8,.int .i64 t8),(16,.bool t16)] (n14 ?_)
   cases t16 with
   |true=>
    refine oT hF fun hF=>?_;refine oZ (n13 ?_);refine oH fun n17 q17=>?_;refine yc (by kernel_rfl) (fun K18 n18 s18 o18 q18 p18=>?_);refine oG fun n19=>W.r ?_;refine oA 19 t1 ?_;refine oA 20 (.int .i64 t8) ?_;refine oP 21 30 9 .i64 hF fun t21 hF=>?_;refine oLs 22 9 hF fun t22 hF=>?_;refine oA 9 (z1f t22) ?_;refine oV [(0,t0),(1,t1),(6,t6_11),(7,.int .i64 t7),(8,.int .i64 t8),(9,z1f t22)] (n19 ?_);obtain⟨k24,e24,hF⟩:=z8 hF
    have J24:∀(t6_25:AV) (t7_26:Int) (h_27:AHeap),k24 t6_25 t7_26 h_27=some (rR,hR)→Go w0 m0 (Func.ntmps Tryd.f22) (K18 .normal) [(0,t0),(1,t1),(6,t6_25),(7,.int .i64 t7_26),(8,.int .i64 t8)] [] h_27:=by
     intro t6_25 t7_26 h_27 hF;rw[e24] at hF;refine n18 (n17 (W.r ?_));refine oA 17 (.int .i64 t8) ?_;refine oI 18 .i64 hF fun t18 hF=>?_;refine oA 8 (.int .i64 t18) ?_;refine oV [(0,t0),(1,t1),(6,t6_25),(7,.int .i64 t7_26),(8,.int .i64 t18)] (n10 ?_);exact gW _ (ih10 _ _ _ _ hF)
    refine yc (by kernel_rfl) (fun K23 n23 s23 o23 q23 p23=>?_);refine y14 (by kernel_rfl) (fun I29 K29 b29 n29 e29 q29 p29=>?_)
    have L29:∀(m:Nat) (t6_30:AV) (t7_31:Int) (t9:zf) (h_32:AHeap),z161 call t0 k24 m t6_30 t7_31 t9 h_32=some (rR,hR)→Go w0 m0 (Func.ntmps Tryd.f22) I29 [(0,t0),(1,t1),(6,t6_30),(7,.int .i64 t7_31),(8,.int .i64 t8),(9,z1f t9)] [] h_32:=by
     intro m
     induction m with
     |zero=>intro t6_30 t7_31 t9 h_32 hF;cases hF
     |succ m ih29=>
      intro t6_30 t7_31 t9 h_32 hF;rw[z2f0] at hF;unfold z18f at hF;refine b29 ?_;refine W.s (fun K33 n33 e33 q33 p33=>?_);refine oG fun n34=>W.r ?_;refine oA 23 (z1f t9) ?_;refine oA 24 (.int .i64 (z105 t9)) ?_;refine oB 25 hF fun t25 hF=>?_;refine oV [(0,t0),(1,t1),(6,t6_30),(7,.int .i64 t7_31),(8,.int .i64 t8),(9,z1f t9),(25,.bool t25)] (n34 ?_)
      cases t25 with
      |true=>
       refine oT hF fun hF=>?_;refine oZ (n33 ?_);refine yc (by kernel_rfl) (fun K36 n36 s36 o36 q36 p36=>?_);refine oG fun n37=>W.r ?_;refine oA 27 t0 ?_;refine oA 28 (z1f t9) ?_;refine oC hc (some 29) hF fun r29 h_38 hF=>?_;refine oA 26 r29 ?_;refine oEi 30 hF fun t30 hF=>?_;refine oEa 31 hF fun t31 hF=>?_;refine oEb 32 hF fun t32 hF=>?_;refine oN 11 hF fun h_46 hF=>?_;refine oA 10 (.int .i64 t30) ?_;refine oW 26 (.agg t31) hF fun h_48 hF=>?_;refine oA 12 (.bool t32) ?_;refine oV [(0,t0),(1,t1),(6,t6_30),(7,.int .i64 t7_31),(8,.int .i64 t8),(9,z1f t9),(10,.int .i64 t30),(11,(z6 h_38)),(12,.bool t32)] (n37 ?_);refine oH fun n50 q50=>?_;refine W.s (fun K51 n51 e51 q51 p51=>?_);refine W.r ?_;refine oA 33 (.int .i64 t30) ?_;refine oB 34 hF fun t34 hF=>?_;refine oA 35 (.bool t34) ?_;obtain⟨j40,e54,hF⟩:=z8 hF
       have J55:∀(t40:Bool) (h_53:AHeap),j40 t40 h_53=some (rR,hR)→WL Tryd.prog w0 m0 (Func.ntmps Tryd.f22) (Code.ops (y4 (y4 (y3 (y4 (y3 (y4 (y4 (y3 (y4 (y4 (y3 (y4 (y4 (y3 (y4 (y3 (y3 (y3 (z81 Tryd.f22)))))))))))))))))))) 8 K51 [(0,t0),(1,t1),(6,t6_30),(7,.int .i64 t7_31),(8,.int .i64 t8),(9,z1f t9),(10,.int .i64 t30),(11,(z6 h_38)),(12,.bool t32),(40,.bool t40)] [] h_53:=by
        intro t40 h_53 hF;rw[e54] at hF;refine oA 41 (.bool t40) ?_;obtain⟨j55,e57,hF⟩:=z8 hF
        have J58:∀(t55:Bool) (h_56:AHeap),j55 t55 h_56=some (rR,hR)→WL Tryd.prog w0 m0 (Func.ntmps Tryd.f22) (Code.ops (y4 (y4 (y3 (y4 (y3 (y4 (y4 (y3 (y4 (y4 (y3 (y4 (y4 (y3 (y4 (y3 (y3 (y3 (z81 Tryd.f22)))))))))))))))))))) 23 K51 [(0,t0),(1,t1),(6,t6_30),(7,.int .i64 t7_31),(8,.int .i64 t8),(9,z1f t9),(10,.int .i64 t30),(11,(z6 h_38)),(12,.bool t32),(55,.bool t55)] [] h_56:=by
         intro t55 h_56 hF;rw[e57] at hF;refine oV [(0,t0),(1,t1),(6,t6_30),(7,.int .i64 t7_31),(8,.int .i64 t8),(9,z1f t9),(10,.int .i64 t30),(11,(z6 h_38)),(12,.bool t32),(55,.bool t55)] (n51 ?_)
         cases t55 with
         |true=>
          refine oT hF fun hF=>?_;refine oG fun n59=>W.r ?_;refine oA 4 AV.nsl ?_;refine oA 5 (.bool false) ?_;refine oV [(4,AV.nsl),(5,.bool false)] (n59 (oY (q50 (q36 (q29 (q23 (q18 (q17 (q10 (q6 (q4 ?_)))))))))));exact lZ hF [.tmp 4,.tmp 5] [AV.nsl,.bool false] (rT (rT zd))
         |false=>
          refine oU hF fun hF=>?_;refine oZ (n50 ?_);refine oG fun n60=>W.r ?_;refine oA 56 (.int .i64 t7_31) ?_;refine oA 57 (.int .i64 t30) ?_;refine oI 58 .i64 hF fun t58 hF=>?_;refine oA 7 (.int .i64 t58) ?_;refine oV [(0,t0),(1,t1),(6,t6_30),(7,.int .i64 t58),(8,.int .i64 t8),(9,z1f t9),(10,.int .i64 t30),(11,(z6 h_38)),(12,.bool t32)] (n60 ?_);refine oG fun n62=>W.r ?_;refine oA 59 (z1f t9) ?_;refine oA 60 (.int .i64 t30) ?_;obtain⟨t61,e63,hF⟩:=z3 hF;refine WL.b (some 61) (z1f t61) h_56 (z29e (P:=Tryd.prog) (h:=h_56) (t:=9) (A:=(some (.int .i64 t30))) (B:=none) (by kernel_rfl) (.inl ⟨_,rfl⟩) (.inr ⟨rfl,rfl⟩) e63) ?_;refine oA 9 (z1f t61) ?_;refine oV [(0,t0),(1,t1),(6,t6_30),(7,.int .i64 t58),(8,.int .i64 t8),(9,z1f t61),(11,(z6 h_38)),(12,.bool t32)] (n62 ?_);refine oG fun n64=>W.r ?_;refine oA 62 (.bool t32) ?_;refine oV [(0,t0),(1,t1),(6,t6_30),(7,.int .i64 t58),(8,.int .i64 t8),(9,z1f t61),(11,(z6 h_38)),(62,.bool t32)] (n64 ?_);obtain⟨k65,e65,hF⟩:=z8 hF
          have J65:∀(t6_66:AV) (h_67:AHeap),k65 t6_66 h_67=some (rR,hR)→Go w0 m0 (Func.ntmps Tryd.f22) (K36 .normal) [(0,t0),(1,t1),(6,t6_66),(7,.int .i64 t58),(8,.int .i64 t8),(9,z1f t61)] [] h_67:=by
           intro t6_66 h_67 hF;rw[e65] at hF;refine n36 (n29 ?_);exact gW _ (ih29 _ _ _ _ hF)
          cases t32 with
          |true=>
           refine oT hF fun hF=>?_;refine W.r ?_;refine oA 63 t6_30 ?_;refine oR 64 26 hF fun t64 hF=>?_;refine oA 65 (.int .i64 t58) ?_;obtain⟨t66,e69,hF⟩:=z3 hF;refine WL.val (d:=(some 66)) (v:=.agg t66) (h':=h_56) (by kernel_rfl) (by kernel_rfl) (z1eb (by kernel_rfl) e69) ?_;refine oK 67 hF fun v67 h_70 hF=>?_;refine oK 68 hF fun v68 h_72 hF=>?_;refine oA 6 v68 ?_;refine oV [(0,t0),(1,t1),(6,v68),(7,.int .i64 t58),(8,.int .i64 t8),(9,z1f t61)] ?_;exact gW _ (J65 _ _ hF)
          |false=>
           refine oU hF fun hF=>?_;refine oZ ?_;exact gW _ (J65 _ _ hF)
        cases t40 with
        |true=>
         replace hF:=zed hF
         refine WL.o (some 42) ?_;refine WL.o (some 43) ?_;refine WL.o (some 44) ?_;refine WL.o (some 45) ?_;refine WL.o (some 46) ?_;refine WL.o (some 47) ?_;refine WL.o (some 48) ?_;refine WL.o (some 49) ?_;refine WL.o (some 50) ?_;refine WL.o (some 51) ?_;refine WL.o (some 52) ?_;refine WL.o (some 53) ?_;refine WL.o (some 54) ?_;refine oA 55 (.bool true) ?_;exact lW _ (J58 _ _ hF)
        |false=>
         replace hF:=zee hF
         refine oA 42 (.bool t32) ?_;refine oB 43 hF fun t43 hF=>?_;refine oA 44 (.bool t43) ?_;obtain⟨j54,e76,hF⟩:=z8 hF
         have J77:∀(t54:Bool) (h_75:AHeap),j54 t54 h_75=some (rR,hR)→WL Tryd.prog w0 m0 (Func.ntmps Tryd.f22) (Code.ops (y4 (y4 (y3 (y4 (y3 (y4 (y4 (y3 (y4 (y4 (y3 (y4 (y4 (y3 (y4 (y3 (y3 (y3 (z81 Tryd.f22)))))))))))))))))))) 22 K51 [(0,t0),(1,t1),(6,t6_30),(7,.int .i64 t7_31),(8,.int .i64 t8),(9,z1f t9),(10,.int .i64 t30),(11,(z6 h_38)),(12,.bool t32),(41,.bool false),(54,.bool t54)] [] h_75:=by
          intro t54 h_75 hF;rw[e76] at hF;refine oA 55 (.bool t54) ?_;exact lW _ (J58 _ _ hF)
         cases t43 with
         |true=>
          replace hF:=zed hF
          refine oA 45 (.int .i64 t30) ?_;refine oA 46 (z1f t9) ?_;refine oA 47 (.int .i64 (z105 t9)) ?_;refine oB 48 hF fun t48 hF=>?_;refine oA 49 (.bool t48) ?_;obtain⟨j53,e80,hF⟩:=z8 hF
          have J81:∀(t53:Bool) (h_79:AHeap),j53 t53 h_79=some (rR,hR)→WL Tryd.prog w0 m0 (Func.ntmps Tryd.f22) (Code.ops (y4 (y4 (y3 (y4 (y3 (y4 (y4 (y3 (y4 (y4 (y3 (y4 (y4 (y3 (y4 (y3 (y3 (y3 (z81 Tryd.f22)))))))))))))))))))) 21 K51 [(0,t0),(1,t1),(6,t6_30),(7,.int .i64 t7_31),(8,.int .i64 t8),(9,z1f t9),(10,.int .i64 t30),(11,(z6 h_38)),(12,.bool t32),(41,.bool false),(44,.bool true),(53,.bool t53)] [] h_79:=by
           intro t53 h_79 hF;rw[e80] at hF;refine oA 54 (.bool t53) ?_;exact lW _ (J77 _ _ hF)
          cases t48 with
          |true=>
           replace hF:=zed hF
           refine WL.o (some 50) ?_;refine WL.o (some 51) ?_;refine WL.o (some 52) ?_;refine oA 53 (.bool true) ?_;exact lW _ (J81 _ _ hF)
          |false=>
           replace hF:=zee hF
           refine oR 50 26 hF fun t50 hF=>?_;refine oA 51 (.agg ([.int .i64 0,.int .i64 0,.int .i64 0]:List AV)) ?_;obtain⟨t52,e83,hF⟩:=z3 hF;obtain⟨t52_84,e85,hF⟩:=z8 hF;refine WL.val (d:=(some 52)) (v:=.bool t52_84) (h':=h_53) (by kernel_rfl) (by kernel_rfl) (ze7 AV.bool e85 (Eq.trans (by kernel_rfl) (z396 (P:=Tryd.prog) (h:=h_53) (t:=26) (lit:=false) (by kernel_rfl) e83))) ?_;refine oA 53 (.bool t52_84) ?_;exact lW _ (J81 _ _ hF)
         |false=>
          replace hF:=zee hF
          refine WL.o (some 45) ?_;refine WL.o (some 46) ?_;refine WL.o (some 47) ?_;refine WL.o (some 48) ?_;refine WL.o (some 49) ?_;refine WL.o (some 50) ?_;refine WL.o (some 51) ?_;refine WL.o (some 52) ?_;refine WL.o (some 53) ?_;refine oA 54 (.bool false) ?_;exact lW _ (J77 _ _ hF)
       cases t34 with
       |true=>
        replace hF:=zed hF
        refine WL.o (some 36) ?_;refine WL.o (some 37) ?_;refine WL.o (some 38) ?_;refine WL.o (some 39) ?_;refine oA 40 (.bool true) ?_;exact lW _ (J55 _ _ hF)
       |false=>
        replace hF:=zee hF
        refine oA 36 (.int .i64 t30) ?_;refine oA 37 (z1f t9) ?_;refine oA 38 (.int .i64 (z105 t9)) ?_;refine oB 39 hF fun t39 hF=>?_;refine oA 40 (.bool t39) ?_;exact lW _ (J55 _ _ hF)
      |false=>
       refine oU hF fun hF=>?_;refine W.exit (by kernel_rfl) ?_;refine e33 (e29 ?_);refine s23 (by kernel_rfl) ?_;exact gW _ (J24 _ _ _ hF)
    exact gW _ (L29 _ _ _ _ _ hF)
   |false=>
    refine oU hF fun hF=>?_;refine W.exit (by kernel_rfl) ?_;refine e13 (e10 ?_);refine s6 (by kernel_rfl) ?_;exact gW _ (J7 _ _ hF)
 exact gW _ (L10 _ _ _ _ _ hF)
noncomputable def z16d(t0:AV)(t1:AV)(k11:AHeap→R)(self:Int→AHeap→R)(t5:Int)(h_15:AHeap):R:=obind (z15f t0) fun t13=>lett (decide (t5<t13)) fun (t14:Bool)=>ifB t14 (obind (z171 4 t0 t5) fun t19=>obind (z16 h_15 4 t19) fun t20=>obind (z171 4 t1 t5) fun t23=>obind (z16 h_15 4 t23) fun t24=>obind (zaa Tryd.prog 82 (.agg t20) (.agg t24)) fun t25=>lett (!t25) fun (t25_28:Bool)=>ifB t25_28 (some (.ret (.bool false),h_15)) (lett (IntKind.i64.wrap (t5+1)) fun (t16:Int)=>self t16 h_15)) (k11 h_15)
noncomputable def z13e(t0:AV)(t1:AV)(k11:AHeap→R):Nat→Int→AHeap→R:=zdf (fun _ _=>none) (z16d t0 t1 k11)
theorem z2c1(t0:AV)(t1:AV)(k11:AHeap→R)(m:Nat):z13e t0 t1 k11 (m+1)=z16d t0 t1 k11 (z13e t0 t1 k11 m):=rfl
noncomputable def z314(_:zc)(n:Nat)(t0:AV)(t1:AV)(h:AHeap):R:=obind (z15f t0) fun t7=>obind (z15f t1) fun t9=>lett ((t7:Int) != t9) fun (t10:Bool)=>ifB t10 (some (.ret (.bool false),h)) (lett (fun (h_12:AHeap)=>some (.ret (.bool true),h_12)) fun k11=>z13e t0 t1 k11 n 0 h)
set_option maxHeartbeats 4000000 in
set_option maxRecDepth 20000 in
theorem law11_same_ok{call:zc}(hc:SaysAll Tryd.prog call){n:Nat}{t0:AV}{t1:AV}{h:AHeap}{rR:ARes}{hR:AHeap}(hF:z314 call n t0 t1 h=some (rR,hR)):Says Tryd.prog 23 [t0,t1] h rR hR:=by
 unfold z314 at hF;refine sO Tryd.func23 fun w0 m0=>?_;refine wW [(0,t0),(1,t1)] ?_;refine oG fun n1=>W.r ?_;refine oA 4 (.bool false) ?_;refine oV [(0,t0),(1,t1)] (n1 ?_);refine oH fun n2 q2=>?_;refine oG fun n3=>W.r ?_;refine oA 6 t0 ?_;refine oM 7 42 82 hF fun t7 hF=>?_;refine oA 8 t1 ?_;refine oM 9 42 82 hF fun t9 hF=>?_;refine oB 10 hF fun t10 hF=>?_;refine oV [(0,t0),(1,t1),(10,.bool t10)] (n3 ?_)
 cases t10 with
 |true=>
  refine oT hF fun hF=>?_;refine oG fun n7=>W.r ?_;refine oA 4 (.bool false) ?_;refine oV [(4,.bool false)] (n7 (oY (q2 ?_)));exact lZ hF [.tmp 4] [.bool false] (rT zd)
 |false=>
  refine oU hF fun hF=>?_;refine oZ (n2 ?_);refine W.s (fun K8 n8 e8 q8 p8=>?_);refine oG fun n9=>W.r ?_;refine oA 5 (.int .i64 0) ?_;refine oV [(0,t0),(1,t1),(5,.int .i64 0)] (n9 ?_);obtain⟨k11,e11,hF⟩:=z8 hF
  have J11:∀(h_12:AHeap),k11 h_12=some (rR,hR)→Go w0 m0 (Func.ntmps Tryd.f23) (K8 .normal) [] [] h_12:=by
   intro h_12 hF;rw[e11] at hF;refine n8 ?_;refine oG fun n13=>W.r ?_;refine oA 4 (.bool true) ?_;refine oV [(4,.bool true)] (n13 (oY ?_));exact lZ hF [.tmp 4] [.bool true] (rT zd)
  refine yc (by kernel_rfl) (fun K10 n10 s10 o10 q10 p10=>?_);refine y14 (by kernel_rfl) (fun I14 K14 b14 n14 e14 q14 p14=>?_)
  have L14:∀(m:Nat) (t5:Int) (h_15:AHeap),z13e t0 t1 k11 m t5 h_15=some (rR,hR)→Go w0 m0 (Func.ntmps Tryd.f23) I14 [(0,t0),(1,t1),(5,.int .i64 t5)] [] h_15:=by
   intro m
   induction m with
   |zero=>intro t5 h_15 hF;cases hF
   |succ m ih14=>
    intro t5 h_15 hF;rw[z2c1] at hF;unfold z16d at hF;refine b14 ?_;refine W.s (fun K16 n16 e16 q16 p16=>?_);refine oG fun n17=>W.r ?_;refine oA 11 (.int .i64 t5) ?_;refine oA 12 t0 ?_;refine oM 13 42 82 hF fun t13 hF=>?_;refine oB 14 hF fun t14 hF=>?_;refine oV [(0,t0),(1,t1),(5,.int .i64 t5),(14,.bool t14)] (n17 ?_)
    cases t14 with
    |true=>
     refine oT hF fun hF=>?_;refine oZ (n16 ?_);refine oH fun n20 q20=>?_;refine yc (by kernel_rfl) (fun K21 n21 s21 o21 q21 p21=>?_);refine oG fun n22=>?_;refine y1f (by kernel_rfl) (hc.ok w0) (plan:=[0,1,2,3,4,5,6,7,8]) (by kernel_rfl) (by kernel_rfl) (by kernel_rfl) ?_;refine WD.a 0 (some 17) t0 h_15 ?_;refine WD.a 0 (some 18) (.int .i64 t5) h_15 ?_;obtain⟨t19,e23,hF⟩:=z3 hF;refine WD.b 0 (some 19) t19 h_15 (z151 (P:=Tryd.prog) (h:=h_15) (t:=42) (e':=82) (k:=.i64) (by kernel_rfl) (by kernel_rfl) (by kernel_rfl) e23) ?_;obtain⟨t20,e24,hF⟩:=z3 hF;refine WD.b 1 (some 20) (.agg t20) h_15 (zb8 (P:=Tryd.prog) (h:=h_15) (t:=82) (by kernel_rfl) (by kernel_rfl) e24) ?_;refine WD.a 0 (some 21) t1 h_15 ?_;refine WD.a 0 (some 22) (.int .i64 t5) h_15 ?_;obtain⟨t23,e25,hF⟩:=z3 hF;refine WD.b 0 (some 23) t23 h_15 (z151 (P:=Tryd.prog) (h:=h_15) (t:=42) (e':=82) (k:=.i64) (by kernel_rfl) (by kernel_rfl) (by kernel_rfl) e25) ?_;obtain⟨t24,e26,hF⟩:=z3 hF;refine WD.b 1 (some 24) (.agg t24) h_15 (zb8 (P:=Tryd.prog) (h:=h_15) (t:=82) (by kernel_rfl) (by kernel_rfl) e26) ?_;obtain⟨t25,e27,hF⟩:=z3 hF;obtain⟨t25_28,e29,hF⟩:=z8 hF;refine WD.val (d:=(some 25)) (v:=.bool t25_28) (h':=h_15) (by kernel_rfl) (by kernel_rfl) (ze7 AV.bool e29 (Eq.trans (by kernel_rfl) (z396 (P:=Tryd.prog) (h:=h_15) (t:=82) (lit:=false) (by kernel_rfl) e27))) (k:=0) (by kernel_rfl) (fun e=>absurd e (by decide)) (by decide) ?_;refine WD.nil ?_;refine gW [(0,t0),(1,t1),(5,.int .i64 t5),(25,.bool t25_28)] (n22 ?_)
     cases t25_28 with
     |true=>
      refine oT hF fun hF=>?_;refine oG fun n30=>W.r ?_;refine oA 4 (.bool false) ?_;refine oV [(4,.bool false)] (n30 (oY (q21 (q20 (q14 (q10 (q8 ?_)))))));exact lZ hF [.tmp 4] [.bool false] (rT zd)
     |false=>
      refine oU hF fun hF=>?_;refine oZ (n21 (n20 (W.r ?_)));refine oA 15 (.int .i64 t5) ?_;refine oI 16 .i64 hF fun t16 hF=>?_;refine oA 5 (.int .i64 t16) ?_;refine oV [(0,t0),(1,t1),(5,.int .i64 t16)] (n14 ?_);exact gW _ (ih14 _ _ hF)
    |false=>
     refine oU hF fun hF=>?_;refine W.exit (by kernel_rfl) ?_;refine e16 (e14 ?_);refine s10 (by kernel_rfl) ?_;exact gW _ (J11 _ hF)
  exact gW _ (L14 _ _ _ hF)
noncomputable def z18e(t0:AV)(t1:Int)(k6:Int→AHeap→R)(self:Int→Int→AHeap→R)(t5_10:Int)(t6:Int)(h_11:AHeap):R:=obind (z15f t0) fun t9=>lett (decide (t6<t9)) fun (t10:Bool)=>lett (fun (t15:Bool) (h_16:AHeap)=>ifB t15 (obind (z171 1 t0 t6) fun t21=>obind (z7 h_16 t21) fun v22=>obind (z158 v22) fun t22=>lett (IntKind.i64.wrap (t5_10+(z105 t22))) fun (t24:Int)=>lett (IntKind.i64.wrap (t6+1)) fun (t17:Int)=>self t24 t17 h_16) (k6 t5_10 h_16)) fun j15=>ifB t10 (lett (decide (t5_10≤t1)) fun (t14:Bool)=>j15 t14 h_11) (j15 false h_11)
noncomputable def z160(t0:AV)(t1:Int)(k6:Int→AHeap→R):Nat→Int→Int→AHeap→R:=zdf (fun _ _ _=>none) (z18e t0 t1 k6)
theorem z2ef(t0:AV)(t1:Int)(k6:Int→AHeap→R)(m:Nat):z160 t0 t1 k6 (m+1)=z18e t0 t1 k6 (z160 t0 t1 k6 m):=rfl
noncomputable def z39f(_:zc)(n:Nat)(t0:AV)(t1:Int)(h:AHeap):R:=lett (fun (t5:Int) (h_7:AHeap)=>some (.ret (.int .i64 t5),h_7)) fun k6=>z160 t0 t1 k6 n 0 0 h
set_option maxHeartbeats 4000000 in
set_option maxRecDepth 20000 in
theorem law11_sum_ok{call:zc}(_:SaysAll Tryd.prog call){n:Nat}{t0:AV}{t1:Int}{h:AHeap}{rR:ARes}{hR:AHeap}(hF:z39f call n t0 t1 h=some (rR,hR)):Says Tryd.prog 18 [t0,.int .i64 t1] h rR hR:=by
 unfold z39f at hF;refine sO Tryd.func18 fun w0 m0=>?_;refine wW [(0,t0),(1,.int .i64 t1)] ?_;refine oG fun n1=>W.r ?_;refine oA 4 (.int .i64 0) ?_;refine oV [(0,t0),(1,.int .i64 t1)] (n1 ?_);refine oG fun n2=>W.r ?_;refine oA 5 (.int .i64 0) ?_;refine oV [(0,t0),(1,.int .i64 t1),(5,.int .i64 0)] (n2 ?_);refine W.s (fun K3 n3 e3 q3 p3=>?_);refine oG fun n4=>W.r ?_;refine oA 6 (.int .i64 0) ?_;refine oV [(0,t0),(1,.int .i64 t1),(5,.int .i64 0),(6,.int .i64 0)] (n4 ?_);obtain⟨k6,e6,hF⟩:=z8 hF
 have J6:∀(t5:Int) (h_7:AHeap),k6 t5 h_7=some (rR,hR)→Go w0 m0 (Func.ntmps Tryd.f18) (K3 .normal) [(5,.int .i64 t5)] [] h_7:=by
  intro t5 h_7 hF;rw[e6] at hF;refine n3 ?_;refine oG fun n8=>W.r ?_;refine oA 25 (.int .i64 t5) ?_;refine oA 4 (.int .i64 t5) ?_;refine oV [(4,.int .i64 t5)] (n8 (oY ?_));exact lZ hF [.tmp 4] [.int .i64 t5] (rT zd)
 refine yc (by kernel_rfl) (fun K5 n5 s5 o5 q5 p5=>?_);refine y14 (by kernel_rfl) (fun I9 K9 b9 n9 e9 q9 p9=>?_)
 have L9:∀(m:Nat) (t5_10:Int) (t6:Int) (h_11:AHeap),z160 t0 t1 k6 m t5_10 t6 h_11=some (rR,hR)→Go w0 m0 (Func.ntmps Tryd.f18) I9 [(0,t0),(1,.int .i64 t1),(5,.int .i64 t5_10),(6,.int .i64 t6)] [] h_11:=by
  intro m
  induction m with
  |zero=>intro t5_10 t6 h_11 hF;cases hF
  |succ m ih9=>
   intro t5_10 t6 h_11 hF;rw[z2ef] at hF;unfold z18e at hF;refine b9 ?_;refine W.s (fun K12 n12 e12 q12 p12=>?_);refine W.s (fun K13 n13 e13 q13 p13=>?_);refine W.r ?_;refine oA 7 (.int .i64 t6) ?_;refine oA 8 t0 ?_;refine oM 9 30 9 hF fun t9 hF=>?_;refine oB 10 hF fun t10 hF=>?_;refine oA 11 (.bool t10) ?_;obtain⟨j15,e17,hF⟩:=z8 hF
   have J18:∀(t15:Bool) (h_16:AHeap),j15 t15 h_16=some (rR,hR)→WL Tryd.prog w0 m0 (Func.ntmps Tryd.f18) (Code.ops (y4 (y4 (y4 (y4 (y3 (y4 (y3 (y3 (z81 Tryd.f18)))))))))) 9 K13 [(0,t0),(1,.int .i64 t1),(5,.int .i64 t5_10),(6,.int .i64 t6),(15,.bool t15)] [] h_16:=by
    intro t15 h_16 hF;rw[e17] at hF;refine oV [(0,t0),(1,.int .i64 t1),(5,.int .i64 t5_10),(6,.int .i64 t6),(15,.bool t15)] (n13 ?_)
    cases t15 with
    |true=>
     refine oT hF fun hF=>?_;refine oZ (n12 ?_);refine oG fun n19=>?_;refine yc (by kernel_rfl) (fun K20 n20 s20 o20 q20 p20=>?_);refine W.r ?_;refine oA 18 (.int .i64 t5_10) ?_;refine oA 19 t0 ?_;refine oA 20 (.int .i64 t6) ?_;refine oP 21 30 9 .i64 hF fun t21 hF=>?_;refine oLs 22 9 hF fun t22 hF=>?_;refine oA 23 (.int .i64 (z105 t22)) ?_;refine oI 24 .i64 hF fun t24 hF=>?_;refine oA 5 (.int .i64 t24) ?_;refine oV [(0,t0),(1,.int .i64 t1),(5,.int .i64 t24),(6,.int .i64 t6)] (n20 (n19 (W.r ?_)));refine oA 16 (.int .i64 t6) ?_;refine oI 17 .i64 hF fun t17 hF=>?_;refine oA 6 (.int .i64 t17) ?_;refine oV [(0,t0),(1,.int .i64 t1),(5,.int .i64 t24),(6,.int .i64 t17)] (n9 ?_);exact gW _ (ih9 _ _ _ hF)
    |false=>
     refine oU hF fun hF=>?_;refine W.exit (by kernel_rfl) ?_;refine e12 (e9 ?_);refine s5 (by kernel_rfl) ?_;exact gW _ (J6 _ _ hF)
   cases t10 with
   |true=>
    replace hF:=zed hF
    refine oA 12 (.int .i64 t5_10) ?_;refine oA 13 (.int .i64 t1) ?_;refine oB 14 hF fun t14 hF=>?_;refine oA 15 (.bool t14) ?_;exact lW _ (J18 _ _ hF)
   |false=>
    replace hF:=zee hF
    refine WL.o (some 12) ?_;refine WL.o (some 13) ?_;refine WL.o (some 14) ?_;refine oA 15 (.bool false) ?_;exact lW _ (J18 _ _ hF)
 exact gW _ (L9 _ _ _ _ hF)
abbrev FoundT:=(Nat×Int×Nat)×Nat
open Go.RowKit Abs
def Reads(h:AHeap)(S:List Nat)(pv:AV)(ss:List zf):Prop:=z15f pv=some (ss.length:Int)∧∀H,Tch S h H→∀(i:Nat) (hi:i<ss.length),∃p,z171 1 pv (i:Int)=some p∧z7 H p=some (z1f ss[i])
theorem z384{N:Nat}{h:AHeap}{S:List Nat}{pv:AV}{ss:List zf}(k:Slc N h 1 pv (ss.map fun s=>[z1f s]))(hN:N≤h.next)(hS:∀b∈S,N≤b):Reads h S pv ss:=by
 refine⟨by have:=k.len;rw[List.length_map] at this;exact this,fun H t i hi=>?_⟩;obtain⟨b,_,h1,h2⟩:=(k.tch t hN hS).cell (f:=z1f) (vs:=ss) hi;exact⟨_,h1,h2⟩
set_option maxRecDepth 100000 in
theorem args_strs{N:Nat}{h:AHeap}{x:AV}(hp:ArgP Tryd.prog N h 12 30 x):∃ss:List zf,Slc N h 1 x (ss.map fun s=>[z1f s])∧ss.length<1000000000000000000∧∀s∈ss,s.length≤reachBytes:=by
 obtain⟨ss,h1,h2,h3⟩:=hp.strs Tryd.underlying30 Tryd.underlying9 (by kernel_rfl);have hb:Tryd.prog.bytesOf 9=16:=by kernel_rfl
 have hr:reachBytes<1000000000000000000:=by decide
 rw[hb] at h2;exact⟨ss,h1,by omega,h3⟩
set_option maxRecDepth 100000 in
abbrev tzI64:List Int:=[0,1,56,2,57,49,28,3,61,58,42,50,38,29,17,4,62,47,59,36,45,43,51,22,53,39,33,30,24,18,12,5,63,55,48,27,60,41,37,16,46,35,44,21,52,32,23,11,54,26,40,15,34,20,31,10,25,14,19,9,13,8,7,6]
set_option maxRecDepth 100000 in
theorem tzC_ints:tzC=tzI64.map fun z=>AV.int .u8 z:=by kernel_rfl
set_option maxRecDepth 100000 in
noncomputable def tzG:Tabs:=[(0,tzI64.map fun z=>AV.int .u8 z)]
set_option maxRecDepth 100000 in
theorem tz_of{h:AHeap}{X:List Nat}{G:Nat}(hG:0<G)(k:Keeps (z269 tzG X G) h):HasTz h:=
 ⟨k.2.2 _ _ (by show (z24a tzG).get _=_;unfold tzG z24a;rw[y1a,tzC_ints]),Nat.lt_of_lt_of_le hG k.1⟩
theorem Slc.stay{N:Nat}{h h':AHeap}{sz:Nat}{v:AV}{ls:List (List AV)}(k:Slc N h sz v ls)(t:Tch [] h h')(hN:N≤h.next):Slc h'.next h' sz v ls:=k.keep (Nat.le_trans hN t.1) fun b o hb ho=>by rw[t.2.2 b (Nat.lt_of_lt_of_le hb hN) (by simp)];exact ho
noncomputable def z56(t0:AV)(k24:AV→AHeap→R)(self:AV→Int→AHeap→R)(t5_91:AV)(t6:Int)(h_92:AHeap):R:=obind (z15f t0) fun t29=>lett (decide (t6<t29)) fun (t30:Bool)=>ifB t30 (obind (z171 1 t0 t6) fun t35=>obind (z7 h_92 t35) fun v36=>obind (z158 v36) fun t36=>lett (decide ((z105 t36)<1)) fun (t38:Bool)=>lett (fun (t46:Bool) (h_105:AHeap)=>ifB t46 (some (.ret (.bool true),h_105)) (obind (z171 1 t0 t6) fun t50=>obind (z7 h_105 t50) fun v51=>obind (z158 v51) fun t51=>outK (z154 Tryd.prog h_105 22 1 [(0,.agg ([.int .i64 1,z1f t51]:List AV))]) fun v53 h_112=>outK (z76 Tryd.prog h_112 22 22 t5_91 v53) fun v54 h_114=>lett (IntKind.i64.wrap (t6+1)) fun (t32:Int)=>self v54 t32 h_114)) fun j46=>ifB t38 (j46 true h_92) (obind (z171 1 t0 t6) fun t42=>obind (z7 h_92 t42) fun v43=>obind (z158 v43) fun t43=>lett (decide ((z105 t43)>64)) fun (t45:Bool)=>j46 t45 h_92)) (k24 t5_91 h_92)
noncomputable def z65(t0:AV)(k24:AV→AHeap→R):Nat→AV→Int→AHeap→R:=zdf (fun _ _ _=>none) (z56 t0 k24)
theorem za7(t0:AV)(k24:AV→AHeap→R)(m:Nat):z65 t0 k24 (m+1)=z56 t0 k24 (z65 t0 k24 m):=rfl
noncomputable def z57(t0:AV)(t1:zf)(h_27:AHeap)(t60:Bool)(t9:Int)(k58:AHeap→R)(self:Int→AHeap→R)(t10:Int)(h_62:AHeap):R:=obind (z15f t0) fun t69=>lett (decide (t10<t69)) fun (t70:Bool)=>ifB t70 (obind (z171 1 t0 t10) fun t76=>obind (z7 h_62 t76) fun v77=>obind (z158 v77) fun t77=>lett (IntKind.i64.wrap (t9 - (z105 t77))) fun (t79:Int)=>lett (fun (t92:Bool) (h_76:AHeap)=>ifB t92 (lett (fun (t101:Bool) (h_78:AHeap)=>some (.ret (.bool t101),h_78)) fun j101=>ifB t60 (obind (z16 h_76 3 (z6 h_27)) fun t95=>obind (zaa Tryd.prog 26 (.agg t95) (.agg ([.int .i64 t10,.int .i64 t79,.int .i64 t9]:List AV))) fun t100=>j101 t100 h_76) (j101 false h_76)) (lett (IntKind.i64.wrap (t10+1)) fun (t72:Int)=>self t72 h_76)) fun k75=>lett (decide (t79≥0)) fun (t81:Bool)=>ifB t81 (obind (z303 t1 t79 t9) fun t86=>obind (z171 1 t0 t10) fun t89=>obind (z7 h_62 t89) fun v90=>obind (z158 v90) fun t90=>lett (eqS t86 t90) fun (t91:Bool)=>k75 t91 h_62) (k75 false h_62)) (k58 h_62)
noncomputable def z46(t0:AV)(t1:zf)(h_27:AHeap)(t60:Bool)(t9:Int)(k58:AHeap→R):Nat→Int→AHeap→R:=zdf (fun _ _=>none) (z57 t0 t1 h_27 t60 t9 k58)
theorem za8(t0:AV)(t1:zf)(h_27:AHeap)(t60:Bool)(t9:Int)(k58:AHeap→R)(m:Nat):z46 t0 t1 h_27 t60 t9 k58 (m+1)=z57 t0 t1 h_27 t60 t9 k58 (z46 t0 t1 h_27 t60 t9 k58 m):=rfl
noncomputable def z58(n:Nat)(t0:AV)(t1:zf)(h_27:AHeap)(t60:Bool)(k40:AHeap→R)(self:Int→AHeap→R)(t9:Int)(h_50:AHeap):R:=lett (decide (t9≤(z105 t1))) fun (t64:Bool)=>ifB t64 (lett (fun (h_59:AHeap)=>lett (IntKind.i64.wrap (t9+1)) fun (t66:Int)=>self t66 h_59) fun k58=>z46 t0 t1 h_27 t60 t9 k58 n 0 h_50) (k40 h_50)
noncomputable def z66(n:Nat)(t0:AV)(t1:zf)(h_27:AHeap)(t60:Bool)(k40:AHeap→R):Nat→Int→AHeap→R:=zdf (fun _ _=>none) (z58 n t0 t1 h_27 t60 k40)
theorem za9(n:Nat)(t0:AV)(t1:zf)(h_27:AHeap)(t60:Bool)(k40:AHeap→R)(m:Nat):z66 n t0 t1 h_27 t60 k40 (m+1)=z58 n t0 t1 h_27 t60 k40 (z66 n t0 t1 h_27 t60 k40 m):=rfl
noncomputable def zb9(call:zc)(n:Nat)(t0:AV)(t1:zf)(h:AHeap):R:=callN (call 12 [] h) fun r12 h_4=>obind (z28 r12) fun t12=>lett (!t12) fun (t13:Bool)=>ifB t13 (some (.ret (.bool false),h_4)) (obind (z15f t0) fun t15=>lett (decide (t15<1)) fun (t16:Bool)=>lett (fun (t21:Bool) (h_13:AHeap)=>lett (fun (t26:Bool) (h_16:AHeap)=>ifB t26 (some (.ret (.bool true),h_16)) (lett (fun (t5:AV) (h_25:AHeap)=>callN (call 14 [t5,z1f t1] h_25) fun r58 h_27=>obind (z17e 0 r58) fun v59=>obind (z73 v59) fun t59=>obind (z17e 1 r58) fun v60=>obind (z28 v60) fun t60=>lett (newH h_27 26 [.int .i64 0,.int .i64 0,.int .i64 0]) fun h_33=>obind (z15 h_33 3 t59 (z6 h_27)) fun h_35=>lett (fun (h_41:AHeap)=>lett (!t60) fun (t103:Bool)=>lett (fun (t108:Bool) (h_44:AHeap)=>some (.ret (.bool t108),h_44)) fun j108=>ifB t103 (obind (z16 h_41 3 (z6 h_27)) fun t105=>obind (zaa Tryd.prog 26 (.agg t105) (.agg ([.int .i64 0,.int .i64 0,.int .i64 0]:List AV))) fun t107=>j108 t107 h_41) (j108 false h_41)) fun k40=>z66 n t0 t1 h_27 t60 k40 n 1 h_35) fun k24=>z65 t0 k24 n AV.nsl 0 h_16)) fun j26=>ifB t21 (j26 true h_13) (lett (decide ((z105 t1)>1000)) fun (t25:Bool)=>j26 t25 h_13)) fun j21=>ifB t16 (j21 true h_4) (obind (z15f t0) fun t19=>lett (decide (t19>8)) fun (t20:Bool)=>j21 t20 h_4))
set_option maxHeartbeats 4000000 in
set_option maxRecDepth 20000 in
theorem z1a9{call:zc}(hc:SaysAll Tryd.prog call){n:Nat}{t0:AV}{t1:zf}{h:AHeap}{rR:ARes}{hR:AHeap}(hF:zb9 call n t0 t1 h=some (rR,hR)):Says Tryd.prog 8 [t0,z1f t1] h rR hR:=by
 unfold zb9 at hF;refine sO Tryd.func8 fun w0 m0=>?_;refine wW [(0,t0),(1,z1f t1)] ?_;refine oG fun n1=>W.r ?_;refine oA 4 (.bool false) ?_;refine oV [(0,t0),(1,z1f t1)] (n1 ?_);refine oH fun n2 q2=>?_;refine oG fun n3=>W.r ?_;refine oCb hc 12 hF fun t12 h_4 hF=>?_;refine oB 13 hF fun t13 hF=>?_;refine oV [(0,t0),(1,z1f t1),(13,.bool t13)] (n3 ?_)
 cases t13 with
 |true=>
  refine oT hF fun hF=>?_;refine oG fun n8=>W.r ?_;refine oA 4 (.bool false) ?_;refine oV [(4,.bool false)] (n8 (oY (q2 ?_)));exact lZ hF [.tmp 4] [.bool false] (rT zd)
 |false=>
  refine oU hF fun hF=>?_;refine oZ (n2 ?_);refine oH fun n9 q9=>?_;refine W.s (fun K10 n10 e10 q10 p10=>?_);refine W.r ?_;refine oA 14 t0 ?_;refine oM 15 30 9 hF fun t15 hF=>?_;refine oB 16 hF fun t16 hF=>?_;refine oA 17 (.bool t16) ?_;obtain⟨j21,e14,hF⟩:=z8 hF
  have J15:∀(t21:Bool) (h_13:AHeap),j21 t21 h_13=some (rR,hR)→WL Tryd.prog w0 m0 (Func.ntmps Tryd.f8) (Code.ops (y4 (y4 (y3 (y3 (z81 Tryd.f8)))))) 8 K10 [(0,t0),(1,z1f t1),(21,.bool t21)] [] h_13:=by
   intro t21 h_13 hF;rw[e14] at hF;refine oA 22 (.bool t21) ?_;obtain⟨j26,e17,hF⟩:=z8 hF
   have J18:∀(t26:Bool) (h_16:AHeap),j26 t26 h_16=some (rR,hR)→WL Tryd.prog w0 m0 (Func.ntmps Tryd.f8) (Code.ops (y4 (y4 (y3 (y3 (z81 Tryd.f8)))))) 13 K10 [(0,t0),(1,z1f t1),(26,.bool t26)] [] h_16:=by
    intro t26 h_16 hF;rw[e17] at hF;refine oV [(0,t0),(1,z1f t1),(26,.bool t26)] (n10 ?_)
    cases t26 with
    |true=>
     refine oT hF fun hF=>?_;refine oG fun n19=>W.r ?_;refine oA 4 (.bool true) ?_;refine oV [(4,.bool true)] (n19 (oY (q9 ?_)));exact lZ hF [.tmp 4] [.bool true] (rT zd)
    |false=>
     refine oU hF fun hF=>?_;refine oZ (n9 ?_);refine oG fun n20=>W.r ?_;refine oA 5 AV.nsl ?_;refine oV [(0,t0),(1,z1f t1),(5,AV.nsl)] (n20 ?_);refine W.s (fun K21 n21 e21 q21 p21=>?_);refine oG fun n22=>W.r ?_;refine oA 6 (.int .i64 0) ?_;refine oV [(0,t0),(1,z1f t1),(5,AV.nsl),(6,.int .i64 0)] (n22 ?_);obtain⟨k24,e24,hF⟩:=z8 hF
     have J24:∀(t5:AV) (h_25:AHeap),k24 t5 h_25=some (rR,hR)→Go w0 m0 (Func.ntmps Tryd.f8) (K21 .normal) [(0,t0),(1,z1f t1),(5,t5)] [] h_25:=by
      intro t5 h_25 hF;rw[e24] at hF;refine n21 ?_;refine oG fun n26=>W.r ?_;refine oA 56 t5 ?_;refine oA 57 (z1f t1) ?_;refine oC hc (some 58) hF fun r58 h_27 hF=>?_;refine oA 55 r58 ?_;refine oEa 59 hF fun t59 hF=>?_;refine oEb 60 hF fun t60 hF=>?_;refine oN 7 hF fun h_33 hF=>?_;refine oW 26 (.agg t59) hF fun h_35 hF=>?_;refine oA 8 (.bool t60) ?_;refine oV [(0,t0),(1,z1f t1),(7,(z6 h_27)),(8,.bool t60)] (n26 ?_);refine W.s (fun K37 n37 e37 q37 p37=>?_);refine oG fun n38=>W.r ?_;refine oA 9 (.int .i64 1) ?_;refine oV [(0,t0),(1,z1f t1),(7,(z6 h_27)),(8,.bool t60),(9,.int .i64 1)] (n38 ?_);obtain⟨k40,e40,hF⟩:=z8 hF
      have J40:∀(h_41:AHeap),k40 h_41=some (rR,hR)→Go w0 m0 (Func.ntmps Tryd.f8) (K37 .normal) [(7,(z6 h_27)),(8,.bool t60)] [] h_41:=by
       intro h_41 hF;rw[e40] at hF;refine n37 ?_;refine W.s (fun K42 n42 e42 q42 p42=>?_);refine W.r ?_;refine oA 102 (.bool t60) ?_;refine oB 103 hF fun t103 hF=>?_;refine oA 104 (.bool t103) ?_;obtain⟨j108,e45,hF⟩:=z8 hF
       have J46:∀(t108:Bool) (h_44:AHeap),j108 t108 h_44=some (rR,hR)→WL Tryd.prog w0 m0 (Func.ntmps Tryd.f8) (Code.ops (y4 (y3 (y3 (y3 (y3 (y3 (y3 (y3 (z81 Tryd.f8)))))))))) 7 K42 [(108,.bool t108)] [] h_44:=by
        intro t108 h_44 hF;rw[e45] at hF;refine oA 4 (.bool t108) ?_;refine oV [(4,.bool t108)] (n42 (oY ?_));exact lZ hF [.tmp 4] [.bool t108] (rT zd)
       cases t103 with
       |true=>
        replace hF:=zed hF
        refine oR 105 26 hF fun t105 hF=>?_;refine oA 106 (.agg ([.int .i64 0,.int .i64 0,.int .i64 0]:List AV)) ?_;obtain⟨t107,e48,hF⟩:=z3 hF;refine WL.b (some 107) (.bool t107) h_41 (z293 (P:=Tryd.prog) (h:=h_41) (t:=26) (lit:=false) (by kernel_rfl) e48) ?_;refine oA 108 (.bool t107) ?_;exact lW _ (J46 _ _ hF)
       |false=>
        replace hF:=zee hF
        refine WL.o (some 105) ?_;refine WL.o (some 106) ?_;refine WL.o (some 107) ?_;refine oA 108 (.bool false) ?_;exact lW _ (J46 _ _ hF)
      refine yc (by kernel_rfl) (fun K39 n39 s39 o39 q39 p39=>?_);refine y14 (by kernel_rfl) (fun I49 K49 b49 n49 e49 q49 p49=>?_)
      have L49:∀(m:Nat) (t9:Int) (h_50:AHeap),z66 n t0 t1 h_27 t60 k40 m t9 h_50=some (rR,hR)→Go w0 m0 (Func.ntmps Tryd.f8) I49 [(0,t0),(1,z1f t1),(7,(z6 h_27)),(8,.bool t60),(9,.int .i64 t9)] [] h_50:=by
       intro m
       induction m with
       |zero=>intro t9 h_50 hF;cases hF
       |succ m ih49=>
        intro t9 h_50 hF;rw[za9] at hF;unfold z58 at hF;refine b49 ?_;refine W.s (fun K51 n51 e51 q51 p51=>?_);refine oG fun n52=>W.r ?_;refine oA 61 (.int .i64 t9) ?_;refine oA 62 (z1f t1) ?_;refine oA 63 (.int .i64 (z105 t1)) ?_;refine oB 64 hF fun t64 hF=>?_;refine oV [(0,t0),(1,z1f t1),(7,(z6 h_27)),(8,.bool t60),(9,.int .i64 t9),(64,.bool t64)] (n52 ?_)
        cases t64 with
        |true=>
         refine oT hF fun hF=>?_;refine oZ (n51 ?_);refine oH fun n54 q54=>?_;refine yc (by kernel_rfl) (fun K55 n55 s55 o55 q55 p55=>?_);refine oG fun n56=>W.r ?_;refine oA 10 (.int .i64 0) ?_;refine oV [(0,t0),(1,z1f t1),(7,(z6 h_27)),(8,.bool t60),(9,.int .i64 t9),(10,.int .i64 0)] (n56 ?_);obtain⟨k58,e58,hF⟩:=z8 hF
         have J58:∀(h_59:AHeap),k58 h_59=some (rR,hR)→Go w0 m0 (Func.ntmps Tryd.f8) (K55 .normal) [(0,t0),(1,z1f t1),(7,(z6 h_27)),(8,.bool t60),(9,.int .i64 t9)] [] h_59:=by
          intro h_59 hF;rw[e58] at hF;refine n55 (n54 (W.r ?_));refine oA 65 (.int .i64 t9) ?_;refine oI 66 .i64 hF fun t66 hF=>?_;refine oA 9 (.int .i64 t66) ?_;refine oV [(0,t0),(1,z1f t1),(7,(z6 h_27)),(8,.bool t60),(9,.int .i64 t66)] (n49 ?_);exact gW _ (ih49 _ _ hF)
         refine yc (by kernel_rfl) (fun K57 n57 s57 o57 q57 p57=>?_);refine y14 (by kernel_rfl) (fun I61 K61 b61 n61 e61 q61 p61=>?_)
         have L61:∀(m:Nat) (t10:Int) (h_62:AHeap),z46 t0 t1 h_27 t60 t9 k58 m t10 h_62=some (rR,hR)→Go w0 m0 (Func.ntmps Tryd.f8) I61 [(0,t0),(1,z1f t1),(7,(z6 h_27)),(8,.bool t60),(9,.int .i64 t9),(10,.int .i64 t10)] [] h_62:=by
          intro m
          induction m with
          |zero=>intro t10 h_62 hF;cases hF
          |succ m ih61=>
           intro t10 h_62 hF;rw[za8] at hF;unfold z57 at hF;refine b61 ?_;refine W.s (fun K63 n63 e63 q63 p63=>?_);refine oG fun n64=>W.r ?_;refine oA 67 (.int .i64 t10) ?_;refine oA 68 t0 ?_;refine oM 69 30 9 hF fun t69 hF=>?_;refine oB 70 hF fun t70 hF=>?_;refine oV [(0,t0),(1,z1f t1),(7,(z6 h_27)),(8,.bool t60),(9,.int .i64 t9),(10,.int .i64 t10),(70,.bool t70)] (n64 ?_)
           cases t70 with
           |true=>
            refine oT hF fun hF=>?_;refine oZ (n63 ?_);refine oH fun n67 q67=>?_;refine yc (by kernel_rfl) (fun K68 n68 s68 o68 q68 p68=>?_);refine oG fun n69=>W.r ?_;refine oA 73 (.int .i64 t9) ?_;refine oA 74 t0 ?_;refine oA 75 (.int .i64 t10) ?_;refine oP 76 30 9 .i64 hF fun t76 hF=>?_;refine oLs 77 9 hF fun t77 hF=>?_;refine oA 78 (.int .i64 (z105 t77)) ?_;refine oI 79 .i64 hF fun t79 hF=>?_;refine oA 11 (.int .i64 t79) ?_;refine oV [(0,t0),(1,z1f t1),(7,(z6 h_27)),(8,.bool t60),(9,.int .i64 t9),(10,.int .i64 t10),(11,.int .i64 t79)] (n69 ?_);refine W.s (fun K74 n74 e74 q74 p74=>?_);obtain⟨k75,e75,hF⟩:=z8 hF
            have J75:∀(t92:Bool) (h_76:AHeap),k75 t92 h_76=some (rR,hR)→Go w0 m0 (Func.ntmps Tryd.f8) (K74 .normal) [(0,t0),(1,z1f t1),(7,(z6 h_27)),(8,.bool t60),(9,.int .i64 t9),(10,.int .i64 t10),(11,.int .i64 t79),(92,.bool t92)] [] h_76:=by
             intro t92 h_76 hF;rw[e75] at hF;refine n74 ?_
             cases t92 with
             |true=>
              refine oT hF fun hF=>?_;refine W.s (fun K77 n77 e77 q77 p77=>?_);refine W.r ?_;refine oA 93 (.bool t60) ?_;refine oA 94 (.bool t60) ?_;obtain⟨j101,e79,hF⟩:=z8 hF
              have J80:∀(t101:Bool) (h_78:AHeap),j101 t101 h_78=some (rR,hR)→WL Tryd.prog w0 m0 (Func.ntmps Tryd.f8) (Code.ops (y4 (y4 (y3 (y3 (y4 (y4 (y3 (y4 (y4 (y3 (y4 (y4 (y3 (y4 (y4 (y3 (y4 (y3 (y3 (y3 (y3 (y3 (y3 (z81 Tryd.f8))))))))))))))))))))))))) 9 K77 [(101,.bool t101)] [] h_78:=by
               intro t101 h_78 hF;rw[e79] at hF;refine oA 4 (.bool t101) ?_;refine oV [(4,.bool t101)] (n77 (oY (q68 (q67 (q61 (q57 (q55 (q54 (q49 (q39 (q37 ?_)))))))))));exact lZ hF [.tmp 4] [.bool t101] (rT zd)
              cases t60 with
              |true=>
               replace hF:=zed hF
               refine oR 95 26 hF fun t95 hF=>?_;refine oA 96 (.int .i64 t10) ?_;refine oA 97 (.int .i64 t79) ?_;refine oA 98 (.int .i64 t9) ?_;refine oA 99 (.agg ([.int .i64 t10,.int .i64 t79,.int .i64 t9]:List AV)) ?_;obtain⟨t100,e82,hF⟩:=z3 hF;refine WL.b (some 100) (.bool t100) h_76 (z293 (P:=Tryd.prog) (h:=h_76) (t:=26) (lit:=false) (by kernel_rfl) e82) ?_;refine oA 101 (.bool t100) ?_;exact lW _ (J80 _ _ hF)
              |false=>
               replace hF:=zee hF
               refine WL.o (some 95) ?_;refine WL.o (some 96) ?_;refine WL.o (some 97) ?_;refine WL.o (some 98) ?_;refine WL.o (some 99) ?_;refine WL.o (some 100) ?_;refine oA 101 (.bool false) ?_;exact lW _ (J80 _ _ hF)
             |false=>
              refine oU hF fun hF=>?_;refine oZ (n68 (n67 (W.r ?_)));refine oA 71 (.int .i64 t10) ?_;refine oI 72 .i64 hF fun t72 hF=>?_;refine oA 10 (.int .i64 t72) ?_;refine oV [(0,t0),(1,z1f t1),(7,(z6 h_27)),(8,.bool t60),(9,.int .i64 t9),(10,.int .i64 t72)] (n61 ?_);exact gW _ (ih61 _ _ hF)
            refine y1f (by kernel_rfl) (hc.ok w0) (plan:=[0,1,2,3,4,5,6,7,8,9,10,11,12]) (by kernel_rfl) (by kernel_rfl) (by kernel_rfl) ?_;refine WD.a 0 (some 80) (.int .i64 t79) h_62 ?_;obtain⟨t81,e84,hF⟩:=z8 hF;refine WD.val (d:=(some 81)) (v:=.bool t81) (h':=h_62) (by kernel_rfl) (by kernel_rfl) (ze7 AV.bool e84 (by kernel_rfl)) (k:=0) (by kernel_rfl) (fun e=>absurd e (by decide)) (by decide) ?_;refine WD.a 0 (some 82) (.bool t81) h_62 ?_
            cases t81 with
            |true=>
             replace hF:=zed hF
             refine WD.a 0 (some 83) (z1f t1) h_62 ?_;refine WD.a 0 (some 84) (.int .i64 t79) h_62 ?_;refine WD.a 0 (some 85) (.int .i64 t9) h_62 ?_;obtain⟨t86,e85,hF⟩:=z3 hF;refine WD.b 0 (some 86) (z1f t86) h_62 (z29e (P:=Tryd.prog) (h:=h_62) (t:=9) (A:=(some (.int .i64 t79))) (B:=(some (.int .i64 t9))) (by kernel_rfl) (.inl ⟨_,rfl⟩) (.inl ⟨_,rfl⟩) e85) ?_;refine WD.a 0 (some 87) t0 h_62 ?_;refine WD.a 0 (some 88) (.int .i64 t10) h_62 ?_;obtain⟨t89,e86,hF⟩:=z3 hF;refine WD.b 0 (some 89) t89 h_62 (z151 (P:=Tryd.prog) (h:=h_62) (t:=30) (e':=9) (k:=.i64) (by kernel_rfl) (by kernel_rfl) (by kernel_rfl) e86) ?_
             replace hF:=z3 hF;obtain⟨v90,e87,hF⟩:=hF
             replace hF:=z3 hF;obtain⟨t90,c88,hF⟩:=hF
             have c88:=ze2 c88;subst c88;refine WD.b 1 (some 90) (z1f t90) h_62 (z14 (P:=Tryd.prog) (h:=h_62) (t:=9) (by kernel_rfl) e87) ?_;obtain⟨t91,e89,hF⟩:=z8 hF;refine WD.val (d:=(some 91)) (v:=.bool t91) (h':=h_62) (by kernel_rfl) (by kernel_rfl) (ze7 AV.bool e89 (by kernel_rfl)) (k:=0) (by kernel_rfl) (fun e=>absurd e (by decide)) (by decide) ?_;refine WD.a 0 (some 92) (.bool t91) h_62 ?_;refine WD.nil ?_;exact gW _ (J75 _ _ hF)
            |false=>
             replace hF:=zee hF
             refine oD 0 (some 83) ?_;refine oD 0 (some 84) ?_;refine oD 0 (some 85) ?_;refine oD 0 (some 86) ?_;refine oD 0 (some 87) ?_;refine oD 0 (some 88) ?_;refine oD 0 (some 89) ?_;refine oD 1 (some 90) ?_;refine oD 0 (some 91) ?_;refine WD.a 0 (some 92) (.bool false) h_62 ?_;refine WD.nil ?_;exact gW _ (J75 _ _ hF)
           |false=>
            refine oU hF fun hF=>?_;refine W.exit (by kernel_rfl) ?_;refine e63 (e61 ?_);refine s57 (by kernel_rfl) ?_;exact gW _ (J58 _ hF)
         exact gW _ (L61 _ _ _ hF)
        |false=>
         refine oU hF fun hF=>?_;refine W.exit (by kernel_rfl) ?_;refine e51 (e49 ?_);refine s39 (by kernel_rfl) ?_;exact gW _ (J40 _ hF)
      exact gW _ (L49 _ _ _ hF)
     refine yc (by kernel_rfl) (fun K23 n23 s23 o23 q23 p23=>?_);refine y14 (by kernel_rfl) (fun I90 K90 b90 n90 e90 q90 p90=>?_)
     have L90:∀(m:Nat) (t5_91:AV) (t6:Int) (h_92:AHeap),z65 t0 k24 m t5_91 t6 h_92=some (rR,hR)→Go w0 m0 (Func.ntmps Tryd.f8) I90 [(0,t0),(1,z1f t1),(5,t5_91),(6,.int .i64 t6)] [] h_92:=by
      intro m
      induction m with
      |zero=>intro t5_91 t6 h_92 hF;cases hF
      |succ m ih90=>
       intro t5_91 t6 h_92 hF;rw[za7] at hF;unfold z56 at hF;refine b90 ?_;refine W.s (fun K93 n93 e93 q93 p93=>?_);refine oG fun n94=>W.r ?_;refine oA 27 (.int .i64 t6) ?_;refine oA 28 t0 ?_;refine oM 29 30 9 hF fun t29 hF=>?_;refine oB 30 hF fun t30 hF=>?_;refine oV [(0,t0),(1,z1f t1),(5,t5_91),(6,.int .i64 t6),(30,.bool t30)] (n94 ?_)
       cases t30 with
       |true=>
        refine oT hF fun hF=>?_;refine oZ (n93 ?_);refine oH fun n97 q97=>?_;refine yc (by kernel_rfl) (fun K98 n98 s98 o98 q98 p98=>?_);refine oH fun n99 q99=>?_;refine W.s (fun K100 n100 e100 q100 p100=>?_);refine W.r ?_;refine oA 33 t0 ?_;refine oA 34 (.int .i64 t6) ?_;refine oP 35 30 9 .i64 hF fun t35 hF=>?_;refine oLs 36 9 hF fun t36 hF=>?_;refine oA 37 (.int .i64 (z105 t36)) ?_;refine oB 38 hF fun t38 hF=>?_;refine oA 39 (.bool t38) ?_;obtain⟨j46,e106,hF⟩:=z8 hF
        have J107:∀(t46:Bool) (h_105:AHeap),j46 t46 h_105=some (rR,hR)→WL Tryd.prog w0 m0 (Func.ntmps Tryd.f8) (Code.ops (y4 (y4 (y4 (y4 (y3 (y4 (y4 (y3 (y4 (y3 (y3 (y3 (y3 (z81 Tryd.f8))))))))))))))) 14 K100 [(0,t0),(1,z1f t1),(5,t5_91),(6,.int .i64 t6),(46,.bool t46)] [] h_105:=by
         intro t46 h_105 hF;rw[e106] at hF;refine oV [(0,t0),(1,z1f t1),(5,t5_91),(6,.int .i64 t6),(46,.bool t46)] (n100 ?_)
         cases t46 with
         |true=>
          refine oT hF fun hF=>?_;refine oG fun n108=>W.r ?_;refine oA 4 (.bool true) ?_;refine oV [(4,.bool true)] (n108 (oY (q99 (q98 (q97 (q90 (q23 (q21 ?_))))))));exact lZ hF [.tmp 4] [.bool true] (rT zd)
         |false=>
          refine oU hF fun hF=>?_;refine oZ (n99 (W.r ?_));refine oA 47 t5_91 ?_;refine oA 48 t0 ?_;refine oA 49 (.int .i64 t6) ?_;refine oP 50 30 9 .i64 hF fun t50 hF=>?_;refine oLs 51 9 hF fun t51 hF=>?_;refine oA 52 (.agg ([.int .i64 1,z1f t51]:List AV)) ?_;refine oK 53 hF fun v53 h_112 hF=>?_;refine oK 54 hF fun v54 h_114 hF=>?_;refine oA 5 v54 ?_;refine oV [(0,t0),(1,z1f t1),(5,v54),(6,.int .i64 t6)] (n98 (n97 (W.r ?_)));refine oA 31 (.int .i64 t6) ?_;refine oI 32 .i64 hF fun t32 hF=>?_;refine oA 6 (.int .i64 t32) ?_;refine oV [(0,t0),(1,z1f t1),(5,v54),(6,.int .i64 t32)] (n90 ?_);exact gW _ (ih90 _ _ _ hF)
        cases t38 with
        |true=>
         replace hF:=zed hF
         refine WL.o (some 40) ?_;refine WL.o (some 41) ?_;refine WL.o (some 42) ?_;refine WL.o (some 43) ?_;refine WL.o (some 44) ?_;refine WL.o (some 45) ?_;refine oA 46 (.bool true) ?_;exact lW _ (J107 _ _ hF)
        |false=>
         replace hF:=zee hF
         refine oA 40 t0 ?_;refine oA 41 (.int .i64 t6) ?_;refine oP 42 30 9 .i64 hF fun t42 hF=>?_;refine oLs 43 9 hF fun t43 hF=>?_;refine oA 44 (.int .i64 (z105 t43)) ?_;refine oB 45 hF fun t45 hF=>?_;refine oA 46 (.bool t45) ?_;exact lW _ (J107 _ _ hF)
       |false=>
        refine oU hF fun hF=>?_;refine W.exit (by kernel_rfl) ?_;refine e93 (e90 ?_);refine s23 (by kernel_rfl) ?_;exact gW _ (J24 _ _ hF)
     exact gW _ (L90 _ _ _ _ hF)
   cases t21 with
   |true=>
    replace hF:=zed hF
    refine WL.o (some 23) ?_;refine WL.o (some 24) ?_;refine WL.o (some 25) ?_;refine oA 26 (.bool true) ?_;exact lW _ (J18 _ _ hF)
   |false=>
    replace hF:=zee hF
    refine oA 23 (z1f t1) ?_;refine oA 24 (.int .i64 (z105 t1)) ?_;refine oB 25 hF fun t25 hF=>?_;refine oA 26 (.bool t25) ?_;exact lW _ (J18 _ _ hF)
  cases t16 with
  |true=>
   replace hF:=zed hF
   refine WL.o (some 18) ?_;refine WL.o (some 19) ?_;refine WL.o (some 20) ?_;refine oA 21 (.bool true) ?_;exact lW _ (J15 _ _ hF)
  |false=>
   replace hF:=zee hF
   refine oA 18 t0 ?_;refine oM 19 30 9 hF fun t19 hF=>?_;refine oB 20 hF fun t20 hF=>?_;refine oA 21 (.bool t20) ?_;exact lW _ (J15 _ _ hF)
theorem lit_empty:∀u:zf,u≠[]→z164 (z431 u)=false
 |[],h=>absurd rfl h
 |[c],_=>rfl
 |c::d::u,_=>by
  have:z431 (c::d::u)=.mk 3 z94 ((c::d::u).map oneB):=rfl;rw[this,z164,if_neg (by decide),if_pos (.inl rfl),List.map_cons,allN];rfl
theorem lits_ok{n d:Nat}(hn:18446744073709551620<n)(hd:1100≤d):∀ws:List zf,(∀w∈ws,1≤w.length∧w.length≤64)→ArmsOk n d (ws.map fun w=>(1,w)) (ws.map z431)
 |[],_=>.nil
 | w :: ws, h => .cons (z366 (.inl rfl) (h w List.mem_cons_self).2 (fun r h => z415 h) (lit_empty w (fun e => by
   have:=(h w List.mem_cons_self).1;rw[e] at this;exact absurd this (by decide))) hn hd) (lits_ok hn hd ws fun x hx=>h x (List.mem_cons_of_mem _ hx))
def z22b(s:zf)(t:Nat):List zf→Option (Nat×Nat)
 |[]=>none
 |w::ws=>if w.length≤t∧z37f s (t - w.length) t=w then some (0,t - w.length) else (z22b s t ws).map fun z=>(z.1+1,z.2)
section
variable {s:zf}{t:Nat}
theorem segB_len{f:Nat}(hf:f≤t)(ht:t≤s.length):(z37f s f t).length=t - f:=by
 unfold z37f;rw[List.length_take,List.length_drop];omega
theorem find_lit{w:zf}(ht:t≤s.length)(h1:1≤w.length)(h2:w.length≤64):z47f (zde (z431 w)) s 0 t=if w.length≤t∧z37f s (t - w.length) t=w then some (t - w.length) else none:=by
 have key:∀f,f<t→(z2bc (zde (z431 w)) (z37f s f t)=true↔f=t - w.length∧w.length≤t∧z37f s (t - w.length) t=w):=by
  intro f hf;rw[lit_lang w _ h2];constructor
  ·intro e
   have:=congrArg List.length e;rw[segB_len (by omega) ht] at this;have e2:f=t - w.length:=by omega
   rw[e2] at e;exact⟨e2,by omega,e⟩
  ·rintro ⟨rfl, _, e⟩
   exact e
 unfold z47f
 by_cases hc:w.length≤t∧z37f s (t - w.length) t=w
 ·rw [if_pos hc]
  have hm:=(key (t - w.length) (by omega)).2 ⟨rfl,hc⟩;cases hf:(List.range' 0 (t - 0)).find? fun f=>z2bc (zde (z431 w)) (z37f s f t) with
  |none=>
   have:=List.find?_eq_none.1 hf (t - w.length) (List.mem_range'_1.2 (by omega));exact absurd hm this
  |some f=>
   have h3:=List.find?_some hf;have h4:=List.mem_range'_1.1 (List.mem_of_find?_eq_some hf);exact congrArg some ((key f (by omega)).1 h3).1
 ·rw [if_neg hc]
  rw[List.find?_eq_none];intro f hf hm;exact hc ((key f (by have:=List.mem_range'_1.1 hf;omega)).1 hm).2
theorem hit_lit(ht:t≤s.length):∀ws:List zf,(∀w∈ws,1≤w.length∧w.length≤64)→z2f3 s 0 t ((ws.map z431).map zde)=z22b s t ws
 |[],_=>rfl
 |w::ws,h=>by
  have hw:=h w List.mem_cons_self;rw[List.map_cons,List.map_cons,z2f3,z22b,find_lit ht hw.1 hw.2,hit_lit ht ws fun x hx=>h x (List.mem_cons_of_mem _ hx)]
  by_cases hc:w.length≤t∧z37f s (t - w.length) t=w
  ·rw[if_pos hc,if_pos hc]
  ·rw[if_neg hc,if_neg hc]
end
theorem bldSlPat1(h:AHeap)(u:zf):z154 Tryd.prog h 22 1 [(0,.agg ([.int .i64 1,z1f u]:List AV))]=zc8 h TPat [.int .i64 1,z1f u] 1 2:=by kernel_rfl
theorem fitPat:fitB Tryd.prog TPat 24=true:=by kernel_rfl
noncomputable def litR(ws:List zf):List (List AV):=(ws.map fun w=>((1:Int),w)).map patC
theorem litR_snoc(ws:List zf)(w:zf):litR (ws++[w])=litR ws++[[.int .i64 1,z1f w]]:=by
 unfold litR;rw[List.map_append,List.map_append];rfl
section
variable {n d:Nat}{h0:AHeap}{pv:AV}{ws:List zf}{s:zf}{Q:ARes→AHeap→Prop}
theorem z39e{k24:AV→AHeap→R}(kp:Reads h0 [] pv ws)(hws:ws.length≤8)(hx:h0.ex=[])(hl:∀w∈ws,w.length≤reachBytes)(hq:∀H,Q (.ret (.bool true)) H):
  ∀(k fu i:Nat) (v:AV) (T:List zd8) (H:AHeap),k<fu→i+k=ws.length→GrowT TPat 2 (litR (ws.take i)) v T→Abs.Mem [] h0 H T→(∀w∈ws.take i,1≤w.length∧w.length≤64)→
   (∀v' T' H',GrowT TPat 2 (litR ws) v' T'→Abs.Mem [] h0 H' T'→(∀w∈ws,1≤w.length∧w.length≤64)→Wp (k24 v' H') Q)→Wp (z65 pv k24 fu v (i:Int) H) Q
 |_,0,_,_,_,_,hf,_,_,_,_,_=>by omega
 |0,fu+1,i,v,T,H,hf,hi,g,M,hw,hk=>by
  rw[za7];unfold z56;refine Wp.obind kp.1 ?_
  ((with_reducible refine Wp.lett ?_))
  refine y6 (by rw[decide_eq_false_iff_not];omega) ?_;rw[List.take_of_length_le (by omega)] at g hw;exact hk v T H g M hw
 |k+1,fu+1,i,v,T,H,hf,hi,g,M,hw,hk=>by
  have hil:i<ws.length:=by omega
  have el:(i:Int)+1=((i+1:Nat):Int):=by omega
  obtain⟨p,i1,c1⟩:=kp.2 H M.tch i hil;have hln:=hl _ (List.getElem_mem hil);have ll:=z7b ws[i];have reach:reachBytes≤1152921504606846976:=by decide
  rw[za7];unfold z56;refine Wp.obind kp.1 ?_
  by_cases h1:ws[i].length <1
  ·repeat (first | (with_reducible first | refine y7 (fun _ _ => ?_) | refine Wp.lett ?_ | (apply Wp.obind; first | exact i1 | exact c1 | exact z5b _)) | ((with_reducible refine y8 ?_ ?_); first | (with_reducible rfl) | ((with_reducible apply decide_eq_true); omega)) | (with_reducible refine yd (by assumption) ?_))
   exact Wp.ret (hq _)
  by_cases h2:64<ws[i].length
  ·repeat (first | (with_reducible first | refine y7 (fun _ _ => ?_) | refine Wp.lett ?_ | (apply Wp.obind; first | exact i1 | exact c1 | exact z5b _)) | ((with_reducible refine y8 ?_ ?_; apply decide_eq_true); omega) | ((with_reducible refine y6 ?_ ?_; apply decide_eq_false); omega) | (with_reducible refine yd (by assumption) ?_))
   exact Wp.ret (hq _)
  repeat(first|(with_reducible first|refine y7 (fun _ _=>?_)|refine Wp.lett ?_|(apply Wp.obind;first|exact i1|exact c1|exact z5b _))|((with_reducible refine y8 ?_ ?_;apply decide_eq_true);omega)|((with_reducible refine y6 ?_ ?_;apply decide_eq_false);omega)|(with_reducible refine yd (by assumption) ?_))
  have gl:(litR (ws.take i)).length=i:=by
   unfold litR;rw[List.length_map,List.length_map,List.length_take];omega
  refine y2f M (bldSlPat1 _ _) rfl (by rw[hx];rfl) fun h6 M6=>?_;refine Wp.grow (P:=Tryd.prog) (sz:=2) (B:=24) (xs:=[]) M6 g (by kernel_rfl) (by kernel_rfl) (by kernel_rfl) fitPat (by rw[hx];rfl) rfl rfl (by rw[gl];omega) (by rw[gl];omega) fun v7 h7 T7 g7 M7=>?_
  repeat(((with_reducible refine ye ?_ ?_ ?_);omega;omega))
  rw[el];have e1:ws.take (i+1)=ws.take i++[ws[i]]:=(List.take_append_getElem hil).symm;refine z39e kp hws hx hl hq k fu (i+1) v7 T7 h7 (by omega) (by omega) (by rw[e1,litR_snoc];exact g7) M7 (fun w hw'=>?_) hk;rw[e1] at hw'
  rcases List.mem_append.1 hw' with hw'|hw'
  ·exact hw w hw'
  ·rw [List.mem_singleton.1 hw']
   omega
theorem z2fd{ok:Bool}{t:Nat}{cells:List AV}{k58:AHeap→R}{h27 H:AHeap}(kp:Reads H [] pv ws)(hws:ws.length≤8)(ht:t≤s.length)(hs:s.length≤1000)(hw:∀w∈ws,1≤w.length∧w.length≤64)(kr:RowH H h27.next z3c9 cells)(hcl:cells.length=3)(hk:z22b s t ws=none→Wp (k58 H) Q)(hq:∀z,z22b s t ws=some z→ok=true∧cells=[.int .i64 (z.1:Int),.int .i64 (z.2:Int),.int .i64 (t:Int)])(hQ:Q (.ret (.bool true)) H):
  ∀(rest:List zf) (i fu:Nat),ws.drop i=rest→rest.length<fu→(z22b s t ws=(z22b s t rest).map fun z=>(z.1+i,z.2))→Wp (z46 pv s h27 ok (t:Int) k58 fu (i:Int) H) Q
 |_,_,0,_,hf,_=>by omega
 |[],i,fu+1,hd,hf,he=>by
  have hl:=drop_nil hd;rw[za8];unfold z57;refine Wp.obind kp.1 ?_
  ((with_reducible refine Wp.lett ?_))
  refine y6 (by rw[decide_eq_false_iff_not];omega) ?_;exact hk he
 |w::rest,i,fu+1,hd,hf,he=>by
  obtain⟨hil,hwi,hd2⟩:=z153 hd;rw[List.length_cons] at hf;have el:(i:Int)+1=((i+1:Nat):Int):=by omega
  obtain⟨p,i1,c1⟩:=kp.2 H (Tch.refl _ _) i hil;have hwb:=hw _ (List.getElem_mem hil);rw[hwi] at c1 hwb;have ll:=z7b w
  have next:z22b s t (w::rest)=(z22b s t rest).map (fun z=>(z.1+1,z.2))→Wp (z46 pv s h27 ok (t:Int) k58 fu ((i+1:Nat):Int) H) Q:=fun e=>z2fd kp hws ht hs hw kr hcl hk hq hQ rest (i+1) fu hd2 (by omega) (by
   rw[he,e,Option.map_map]
   congr 1
   funext z
   show (z.1+1+i,z.2)=(z.1+(i+1),z.2);rw[Nat.add_assoc,Nat.add_comm 1 i])
  rw[za8];unfold z57;refine Wp.obind kp.1 ?_
  ((with_reducible refine Wp.lett ?_))
  refine y8 (by rw[decide_eq_true_eq];omega) ?_;refine Wp.obind i1 (Wp.obind c1 (Wp.obind (z5b _) ?_))
  (((with_reducible refine ye ?_ ?_ ?_);omega;omega))
  rw[ll];refine y1e fun k75 ek=>?_
  by_cases hle:w.length≤t
  ·have e1 : (t : Int) - (w.length : Int) = ((t - w.length : Nat) : Int) := by omega
   rw[e1] at ek ⊢;have sl:=z460 (l:=s) (a:=t - w.length) (b:=t) (by omega) ht
   ((with_reducible refine Wp.lett ?_))
   refine y8 (by rw[decide_eq_true_eq];omega) ?_;refine Wp.obind sl (Wp.obind i1 (Wp.obind c1 (Wp.obind (z5b _) ?_)))
   by_cases hseg:z37f s (t - w.length) t=w
   ·have hE : eqS ((s.drop (t - w.length)).take (t - (t - w.length))) w = true := eqS_true.2 hseg
    rw[hE]
    ((with_reducible refine Wp.lett ?_))
    rw[ek];refine y8 rfl ?_
    have hz:z22b s t ws=some (i,t - w.length):=by
     rw[he,z22b,if_pos ⟨hle,hseg⟩];show some (0+i,t - w.length)=_;rw[Nat.zero_add]
    obtain⟨h1,h2⟩:=hq _ hz;have r1:z16 H 3 (.ptr h27.next 0)=some cells:=y12 kr hcl;rw[h2] at r1
    have q1:zaa Tryd.prog z3c9 (.agg [.int .i64 (i:Int),.int .i64 ((t - w.length:Nat):Int),.int .i64 (t:Int)]) (.agg [.int .i64 (i:Int),.int .i64 ((t - w.length:Nat):Int),.int .i64 (t:Int)])=some true:=by
     rw[eqHit]
     simp
    rw[h1]
    repeat(first|(with_reducible first|refine y7 (fun _ _=>?_)|(apply Wp.obind;first|exact r1|exact q1)|(refine y8 ?_ ?_;rfl)|refine yd (by assumption) ?_)|rw[z10])
    exact Wp.ret hQ
   ·have hE : eqS ((s.drop (t - w.length)).take (t - (t - w.length))) w = false := eqS_false.2 hseg
    rw[hE]
    ((with_reducible refine Wp.lett ?_))
    rw[ek];refine y6 rfl ?_
    (((with_reducible refine ye ?_ ?_ ?_);omega;omega))
    rw[el];exact next (by rw[z22b,if_neg (fun h=>hseg h.2)])
  ·((with_reducible refine Wp.lett ?_))
   refine y6 (by rw[decide_eq_false_iff_not];omega) ?_;rw[ek];refine y6 rfl ?_
   (((with_reducible refine ye ?_ ?_ ?_);omega;omega))
   rw[el];exact next (by rw[z22b,if_neg (fun h=>hle h.1)])
end
theorem grow_slc{h h0:AHeap}{rows:List (List AV)}{v:AV}{T:List zd8}(g:GrowT TPat 2 rows v T)(M:Abs.Mem [] h0 h T):Slc h.next h 2 v rows:=by
 refine Sli.slc (e:=TPat) (lo:=0) ⟨fun r hr=>g.1 r hr,?_⟩
 rcases g.2 with⟨h1,h2,_⟩|⟨h1,c,h2,rfl⟩
 ·exact .inl ⟨h1,h2⟩
 ·have := M.row (c, TPat, rows.flatten) (by simp)
  exact .inr ⟨c,h1,h2,Nat.zero_le _,this.2.1,this.1⟩
section
variable {n:Nat}{pv:AV}{ws:List zf}{s:zf}{Q:ARes→AHeap→Prop}
theorem z416{r:Option (Nat×Nat×Nat)}{k40:AHeap→R}{h27 H:AHeap}(hn:1000000<n)(kp:Reads H [] pv ws)(hws:ws.length≤8)(hs:s.length≤1000)(hw:∀w∈ws,1≤w.length∧w.length≤64)(kr:RowH H h27.next z3c9 (z272 r))(hk:r=none→Wp (k40 H) Q)(hQ:Q (.ret (.bool true)) H):
  ∀(k fu t:Nat),k<fu→1≤t→t+k=s.length+1→r=z205 ((ws.map z431).map zde) s k t→Wp (z66 n pv s h27 r.isSome k40 fu (t:Int) H) Q
 |_,0,_,hf,_,_,_=>by omega
 |0,fu+1,t,hf,h1,ht,hr=>by
  have ll:=z7b s;rw[za9];unfold z58
  ((with_reducible refine Wp.lett ?_))
  refine y6 (by rw[decide_eq_false_iff_not];omega) ?_;exact hk hr
 |k+1,fu+1,t,hf,h1,ht,hr=>by
  have ll:=z7b s;have el:(t:Int)+1=((t+1:Nat):Int):=by omega
  have htl:t≤s.length:=by omega
  have e1:=hit_lit htl ws hw;rw[z205,e1] at hr;rw[za9];unfold z58
  ((with_reducible refine Wp.lett ?_))
  refine y8 (by rw[decide_eq_true_eq];omega) ?_;refine y1e fun k58 ek=>?_;refine z2fd (ok:=r.isSome) (cells:=z272 r) kp hws htl hs hw kr (z25e _) (fun hz=>?_) (fun z hz=>?_) hQ ws 0 n rfl (by omega) ?_
  ·rw [ek]
   (((with_reducible refine ye ?_ ?_ ?_);omega;omega))
   rw[el];rw[hz] at hr;exact z416 hn kp hws hs hw kr hk hQ k fu (t+1) (by omega) (by omega) (by omega) hr
  ·rw [hz] at hr
   have hr:r=some (z.1,z.2,t):=hr;rw[hr];exact⟨rfl,rfl⟩
  ·cases z22b s t ws<;>rfl
end
set_option maxRecDepth 100000 in
theorem z226(h:AHeap)(hX:h.ex=[])(hT:HasTz h)(xs:List AV)(hP:z411 Tryd.prog h.next h 12 [30,9] xs):∃h',Says Tryd.prog 8 xs h (.ret (.bool true)) h':=by
 obtain⟨x0,_,rfl,hp0,hP⟩:=z3c1 hP;obtain⟨_,_,rfl,hp1,hP⟩:=z3c1 hP
 obtain rfl:=args0 hP
 obtain⟨ws,ks,hws,hwl⟩:=args_strs hp0;obtain⟨s,rfl,hsc⟩:=hp1.str Tryd.underlying9;obtain⟨n,hn⟩:∃n,18446744073709551620<n:=⟨_,Nat.lt_succ_self _⟩;obtain⟨D,hD⟩:∃D,2000≤D:=⟨2000,Nat.le_refl _⟩
 suffices hK:Wp (zb9 (world n (D+6)) n x0 s h) fun r _=>r=.ret (.bool true) by
  obtain⟨_,h',e,rfl⟩:=hK;exact⟨h',z1a9 (world_ok n (D+6)) e⟩
 unfold zb9;have ll:=z7b s;have kr0:=z384 (S:=[]) ks (Nat.le_refl _) (fun _ h=>nomatch h);have l0:=kr0.1;refine Wp.callN (works_w (d:=D+5) hn (by omega) hT hX) (Wp.obind (z5 _) ?_)
 by_cases h1:ws.length<1
 ·repeat (first | (with_reducible first | refine y7 (fun _ _ => ?_) | refine Wp.lett ?_ | (apply Wp.obind; exact l0)) | ((with_reducible refine y8 ?_ ?_); first | (with_reducible rfl) | ((with_reducible apply decide_eq_true); omega)) | (with_reducible first | (refine y6 ?_ ?_; exact Bool.not_true) | refine yd (by assumption) ?_))
  exact Wp.ret rfl
 by_cases h8:8<ws.length
 ·repeat (first | (with_reducible first | refine y7 (fun _ _ => ?_) | refine Wp.lett ?_ | (apply Wp.obind; exact l0)) | ((with_reducible refine y8 ?_ ?_); first | (with_reducible rfl) | ((with_reducible apply decide_eq_true); omega)) | ((with_reducible refine y6 ?_ ?_); first | (with_reducible exact Bool.not_true) | ((with_reducible apply decide_eq_false); omega)) | (with_reducible refine yd (by assumption) ?_))
  exact Wp.ret rfl
 by_cases hbig:1000<s.length
 ·repeat (first | (with_reducible first | refine y7 (fun _ _ => ?_) | refine Wp.lett ?_ | (apply Wp.obind; exact l0)) | ((with_reducible refine y8 ?_ ?_; apply decide_eq_true); omega) | ((with_reducible refine y6 ?_ ?_); first | (with_reducible exact Bool.not_true) | ((with_reducible apply decide_eq_false); omega)) | (with_reducible refine yd (by assumption) ?_))
  exact Wp.ret rfl
 repeat(first|(with_reducible first|refine y7 (fun _ _=>?_)|refine Wp.lett ?_|(apply Wp.obind;exact l0))|((with_reducible refine y6 ?_ ?_);first|(with_reducible exact Bool.not_true)|((with_reducible apply decide_eq_false);omega))|(with_reducible refine yd (by assumption) ?_))
 rename_i k24 ek;refine z39e kr0 (by omega) hX hwl (fun _=>rfl) ws.length n 0 .nsl [] h (by omega) (Nat.zero_add _) (GrowT.nil _ _) (Mem.nil [] h) (fun _ h=>nomatch h) fun v' T' H' g M hw=>?_;rw[ek];have hX':H'.ex=[]:=by rw[M.ex,hX]
 have t1:=M.tch;have hM:May n (D+3) (ws.map fun w=>((1:Int),w)) (ws.map z431):=⟨by rw[List.length_map];omega,by rw[List.length_map];omega,lits_ok hn (by omega) ws hw⟩;obtain⟨h2,e2,t2⟩:=z1d7 (n:=n) (d:=D) (h:=H') (s:=s) hn hM hX' (hT.tch t1 (by simp)) (grow_slc g M) (by omega);rw[z3f8] at e2;refine Wp.callN e2 (Wp.obind (z17d _ _) (Wp.obind (z12 _) (Wp.obind (z17c _ _ _) (Wp.obind (z5 _) ?_))));refine y9 (Mem.nil [] h2) fun h3 M3=>?_;rw[z10];refine y11 M3 (z25e _) rfl (z47c _) fun h4 M4=>?_;have t04:Tch [] h h4:=(t1.trans t2).trans M4.tch;have kr4:=z384 (S:=[]) (Slc.stay ks t04 (Nat.le_refl _)) (Nat.le_refl _) (fun _ h=>nomatch h);refine y1e fun k40 ek40=>?_;refine z416 (n:=n) (r:=z205 ((ws.map z431).map zde) s s.length 1) (by omega) kr4 (by omega) (by omega) hw M4.at0.1 (fun hr=>?_) rfl s.length n 1 (by omega) (Nat.le_refl _) (by omega) rfl;rw[ek40,hr]
 have r4:z16 h4 3 (.ptr h2.next 0)=some [.int .i64 0,.int .i64 0,.int .i64 0]:=by
  have:=y12 M4.at0.1 (z25e _);rw[hr] at this;exact this
 have q4:zaa Tryd.prog z3c9 (.agg [.int .i64 0,.int .i64 0,.int .i64 0]) (.agg [.int .i64 0,.int .i64 0,.int .i64 0])=some true:=eqHit 0 0 0 0 0 0;have b1:(!(none:Option (Nat×Nat×Nat)).isSome)=true:=rfl
 repeat(with_reducible first|refine y7 (fun _ _=>?_)|refine Wp.lett ?_|(apply Wp.obind;first|exact r4|exact q4)|(refine y8 ?_ ?_;assumption)|refine yd (by assumption) ?_)
 exact Wp.ret rfl
end Go.Proofs.YtcahhjjnihipdaaDoor
