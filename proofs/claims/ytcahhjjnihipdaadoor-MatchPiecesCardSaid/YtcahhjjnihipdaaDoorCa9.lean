/- What matchPieces_proved stands on, part 9 of 10. -/
import Derived.Test.YtcahhjjnihipdaaDoorCa8
namespace Go.Proofs.YtcahhjjnihipdaaDoor
open Go.RowKit Abs
abbrev z3b0:Nat:=26
structure ArmT where
 nb:Nat
 N:Nt
 v:AV
 l:List z1a3
def z46f(a:ArmT):List Nat:=zc4 a.v++a.l.map (·.1)
def z5a:List ArmT→List Nat
 |[]=>[]
 |a::r=>z46f a++z5a r
noncomputable def z113:List ArmT→List AV
 |[]=>[]
 |a::r=>[.ptr a.nb 0,a.v]++z113 r
theorem z244:∀az:List ArmT,(z113 az).length=2*az.length
 |[]=>rfl
 |a::r=>by
  have:=z244 r;rw[z113,List.length_append,this];show 2+2*r.length=2*(r.length+1);omega
theorem z1cb:∀a b:List ArmT,z113 (a++b)=z113 a++z113 b
 |[],_=>rfl
 |x::a,b=>by rw[List.cons_append,z113,z113,z1cb a b,List.append_assoc]
theorem z6c{b:Nat}:∀{az:List ArmT},b∈z5a az↔∃a∈az,b∈z46f a
 |[]=>by simp[z5a]
 |a::r=>by
  rw[z5a,List.mem_append,z6c]
  simp
structure ArmsAt (h:AHeap) (ab:Nat) (az:List ArmT):Prop where
 row:RowH h ab z3b4 (z113 az)
 hab:ab<h.next
 net:∀a∈az,NtOk a.N∧RowH h a.nb TNet (netC a.N)∧a.nb<h.next
 sl:∀a∈az,VAt h a.v (z9c a.l) a.l.length
 runs:∀a∈az,RunsAt h a.nb a.l
 nd:∀a∈az,(a.l.map (·.1)).Nodup
 apart:∀a∈az,∀b∈zc4 a.v,b ∉ a.l.map (·.1)
 own:∃f:Nat→Nat,f ab=0∧(∀a∈az,f a.nb=1)∧∀(i:Nat) (a:ArmT),az[i]? =some a→∀b∈z46f a,f b=i+2
section
variable {h h':AHeap}{ab:Nat}{az P R:List ArmT}{a:ArmT}
theorem ArmsAt.lt(k:ArmsAt h ab az):∀b∈z5a az,b<h.next:=by
 intro b hb;obtain⟨a,ha,hb⟩:=z6c.1 hb
 rcases List.mem_append.1 hb with hb|hb
 ·exact(k.sl a ha).lt b hb
 ·obtain ⟨x, hx, rfl⟩ := List.mem_map.1 hb
  exact(k.runs a ha x hx).2.1
theorem ArmsAt.tch{S:List Nat}(k:ArmsAt h ab az)(t:Tch S h h')(h1:ab ∉ S)(h2:∀a∈az,a.nb ∉ S)(h3:∀b∈z5a az,b ∉ S):ArmsAt h' ab az:=by
 obtain⟨k1,k2,k3,k4,k5,k6,k7,k8⟩:=k;exact⟨k1.tch t k2 h1,Nat.lt_of_lt_of_le k2 t.1,fun a ha=>⟨(k3 a ha).1,(k3 a ha).2.1.tch t (k3 a ha).2.2 (h2 a ha),Nat.lt_of_lt_of_le (k3 a ha).2.2 t.1⟩,fun a ha=>(k4 a ha).tch t (fun b hb=>h3 b (z6c.2 ⟨a,ha,List.mem_append_left _ hb⟩)),fun a ha=>(k5 a ha).tch t (fun x hx=>h3 x.1 (z6c.2 ⟨a,ha,List.mem_append_right _ (List.mem_map_of_mem hx)⟩)),k6,k7,k8⟩
theorem ArmsAt.at(k:ArmsAt h ab (P++a::R)):ArmAt h ab (0+P.length*2) a.nb a.N (z113 (P++a::R)) a.v a.l∧ab≠a.nb:=by
 obtain⟨f,f1,f2,f3⟩:=k.own;have ha:a∈P++a::R:=by simp
 have hi:(P++a::R)[P.length]? =some a:=by simp
 have f4:=f3 _ _ hi;have f5:=f2 a ha;have e:z113 (P++a::R)=z113 P++([.ptr a.nb 0,a.v]++z113 R):=by rw[z1cb,z113]
 have hP:=z244 P;have bv:∀{b},b∈zc4 a.v→f b=P.length+2:=fun hb=>f4 _ (List.mem_append_left _ hb);have bl:∀{b},b∈a.l.map (·.1)→f b=P.length+2:=fun hb=>f4 _ (List.mem_append_right _ hb);refine⟨⟨k.row,k.hab,?_,?_,k.sl a ha,k.runs a ha,(k.net a ha).2.1,(k.net a ha).2.2,k.nd a ha,k.apart a ha,fun hb=>?_,fun hb=>?_,fun hb=>?_,fun hb=>?_⟩,fun he=>?_⟩
 ·rw [e, List.getElem?_append_right (by omega), show 0 + P.length * 2 - (z113 P).length = 0 by omega]
  rfl
 ·rw [e, List.getElem?_append_right (by omega), show 0 + P.length * 2 + 1 - (z113 P).length = 1 by omega]
  rfl
 ·have := bv hb
  omega
 ·have := bl hb
  omega
 ·have := bv hb
  omega
 ·have := bl hb
  omega
 ·rw [he] at f1
  omega
theorem armsC_set{v':AV}:(z113 (P++a::R)).set (0+P.length*2+1) v'=z113 (P++{a with v:=v'}::R):=by
 have hP:=z244 P;rw[z1cb,z1cb,z113,z113,List.set_append_right _ _ (by omega),show 0+P.length*2+1 - (z113 P).length=1 by omega];rfl
theorem ArmsAt.step{v':AV}{l':List z1a3}(k:ArmsAt h ab (P++a::R))(k':ArmAt h' ab (0+P.length*2) a.nb a.N ((z113 (P++a::R)).set (0+P.length*2+1) v') v' l')(hv:∀b∈zc4 v',b∈zc4 a.v∨h.next≤b)(hl:∀b∈l'.map (·.1),b∈a.l.map (·.1)∨h.next≤b)(t:Tch (ab::z46f a) h h'):
  ArmsAt h' ab (P++{a with v:=v',l:=l'}::R):=by
 obtain⟨f,f1,f2,f3⟩:=k.own;have ha:a∈P++a::R:=by simp
 have hi:(P++a::R)[P.length]? =some a:=by simp
 have f4:=f3 _ _ hi
 have hS:∀{b},b∈ab::z46f a→f b=0∨f b=P.length+2:=fun hb=>by
  rcases List.mem_cons.1 hb with hb|hb
  ·rw [hb]
   exact .inl f1
  ·exact .inr (f4 _ hb)
 have others:∀y∈P++{a with v:=v',l:=l'}::R,y={a with v:=v',l:=l'}∨(y∈P++a::R∧∀b∈z46f y,b ∉ ab::z46f a):=by
  intro y hy
  have place:∀(j:Nat),(P++a::R)[j]? =some y→j≠P.length→(y∈P++a::R∧∀b∈z46f y,b ∉ ab::z46f a):=fun j hj hne=>⟨List.mem_of_getElem? hj,fun b hb hm=>by
   have:=f3 _ _ hj b hb
   rcases hS hm with h|h<;>omega⟩
  rcases List.mem_append.1 hy with hy|hy
  ·obtain ⟨j, hj⟩ := List.getElem?_of_mem hy
   have hjl:j<P.length:=by
    apply Nat.lt_of_not_le;intro hh;rw[List.getElem?_eq_none hh] at hj;cases hj
   exact .inr (place j (by rw[List.getElem?_append_left hjl];exact hj) (by omega))
  ·rcases List.mem_cons.1 hy with hy | hy
   ·exact .inl hy
   ·obtain ⟨j, hj⟩ := List.getElem?_of_mem hy
    exact .inr (place (P.length+(j+1)) (by rw[List.getElem?_append_right (by omega),Nat.add_sub_cancel_left,List.getElem?_cons_succ];exact hj) (by omega))
 have nets:∀y∈P++a::R,y.nb ∉ ab::z46f a:=fun y hy hm=>by
  have:=f2 y hy
  rcases hS hm with h|h<;>omega
 have nbs:∀y∈P++{a with v:=v',l:=l'}::R,∃z∈P++a::R,y.nb=z.nb∧y.N=z.N:=by
  intro y hy
  rcases others y hy with rfl|⟨h1,_⟩
  ·exact⟨a,ha,rfl,rfl⟩
  ·exact⟨y,h1,rfl,rfl⟩
 refine⟨?_,k'.hab,fun y hy=>?_,fun y hy=>?_,fun y hy=>?_,fun y hy=>?_,fun y hy=>?_,fun b=>if b<h.next then f b else P.length+2,?_,fun y hy=>?_,fun i y hy b hb=>?_⟩
 ·have := k'.row
  rw[armsC_set] at this;rw[z1cb,z113] at this ⊢;exact this
 ·obtain ⟨z, hz, e1, e2⟩ := nbs y hy
  rw[e1,e2];exact⟨(k.net z hz).1,(k.net z hz).2.1.tch t (k.net z hz).2.2 (nets z hz),Nat.lt_of_lt_of_le (k.net z hz).2.2 t.1⟩
 ·rcases others y hy with rfl | ⟨h1, h2⟩
  ·exact k'.sl
  ·exact(k.sl y h1).tch t fun b hb=>h2 b (List.mem_append_left _ hb)
 ·rcases others y hy with rfl | ⟨h1, h2⟩
  ·exact k'.runs
  ·exact(k.runs y h1).tch t fun x hx=>h2 _ (List.mem_append_right _ (List.mem_map_of_mem hx))
 ·rcases others y hy with rfl | ⟨h1, h2⟩
  ·exact k'.nd
  ·exact k.nd y h1
 ·rcases others y hy with rfl | ⟨h1, h2⟩
  ·exact k'.apart
  ·exact k.apart y h1
 ·show (if ab < h.next then f ab else P.length + 2) = 0
  rw[if_pos k.hab,f1]
 ·obtain ⟨z, hz, e1, _⟩ := nbs y hy
  rw[e1];show (if z.nb<h.next then f z.nb else P.length+2)=1;rw[if_pos (k.net z hz).2.2,f2 z hz]
 ·show (if b < h.next then f b else P.length + 2) = i + 2
  by_cases hiP:i=P.length
  ·subst hiP
   have e:y={a with v:=v',l:=l'}:=by simpa using hy.symm
   subst e
   split
   ·rename_i hlt
    rcases List.mem_append.1 hb with hb|hb
    ·rcases hv b hb with hb | hb
     ·exact f4 b (List.mem_append_left _ hb)
     ·omega
    ·rcases hl b hb with hb | hb
     ·exact f4 b (List.mem_append_right _ hb)
     ·omega
   ·rfl
  ·have hy2 : (P ++ a :: R)[i]? = some y := by
    by_cases hlt:i<P.length
    ·rw [List.getElem?_append_left hlt] at hy ⊢
     exact hy
    ·rw [List.getElem?_append_right (by omega)] at hy ⊢
     obtain⟨j,hj⟩:∃j,i - P.length=j+1:=⟨i - P.length - 1,by omega⟩;rw[hj,List.getElem?_cons_succ] at hy ⊢;exact hy
   have hbl:b<h.next:=k.lt b (z6c.2 ⟨y,List.mem_of_getElem? hy2,hb⟩);rw[if_pos hbl];exact f3 _ _ hy2 b hb
end
def z2ed(B:Nat)(az:List ArmT):Prop:=∀a∈az,a.l.length≤B∧∀x∈a.l,x.2.2<B
abbrev WayW:=(Bool×Nat)×Nat
def z4a6(N:Nt)(c:Nat):List WayW→List WayW
 |[]=>[]
 |x::l=>if z3ed N (stepN N x.1 c)=true then z4a6 N c l else (stepN N x.1 c,x.2)::z4a6 N c l
def accW(N:Nt)(c:Nat):Option Nat→WayW→Option Nat
 |some f,_=>some f
 |none,x=>if z267 N (stepN N x.1 c)=true then some x.2 else none
def hitW(N:Nt)(c:Nat)(a:Option Nat)(l:List WayW):Option Nat:=l.foldl (accW N c) a
theorem z4a5{N:Nt}{c:Nat}:∀l:List z1a3,(zaa N c l).map (·.2)=z4a6 N c (l.map (·.2))
 |[]=>rfl
 |x::l=>by
  rw[zaa,List.map_cons,z4a6, ←z4a5 l]
  split<;>rfl
theorem z38b{N:Nt}{c:Nat}:∀l:List z1a3,(zaa N c l).length≤l.length
 |[]=>Nat.le_refl _
 |x::l=>by
  have:=z38b (N:=N) (c:=c) l;rw[zaa,List.length_cons]
  split
  ·omega
  ·rw [List.length_cons]
   omega
theorem hitX_W{N:Nt}{c:Nat}:∀(l:List z1a3) (a:Option Nat),z359 N c a l=hitW N c a (l.map (·.2))
 |[],_=>rfl
 |x::l,a=>by
  show z359 N c (accX N c a x) l=hitW N c (accW N c a x.2) (l.map (·.2));rw[hitX_W l]
  cases a<;>rfl
abbrev z357:=Nt×List WayW
def z116(a:ArmT):z357:=(a.N,a.l.map (·.2))
def z495(c at_:Nat)(a:z357):z357:=(a.1,z4a6 a.1 c (a.2++[((false,0),at_)]))
def hitA(c at_:Nat)(a:z357):Option Nat:=hitW a.1 c none (a.2++[((false,0),at_)])
def z55(c at_:Nat):List z357→Option (Nat×Nat)×List z357
 |[]=>(none,[])
 |a::r=>match hitA c at_ a with
  |some f=>(some (0,f),z495 c at_ a::r)
  |none=>((z55 c at_ r).1.map (fun z=>(z.1+1,z.2)),z495 c at_ a::(z55 c at_ r).2)
noncomputable def z44d(i at_:Nat):Option (Nat×Nat)→List AV
 |some z=>[.int .i64 ((i+z.1:Nat):Int),.int .i64 (z.2:Int),.int .i64 ((at_:Int)+1)]
 |none=>[.int .i64 0,.int .i64 0,.int .i64 0]
section
variable {n d ab byte at_ L hb:Nat}{h:AHeap}{Q:ARes→AHeap→Prop}{k8:AHeap→R}
set_option maxHeartbeats 4000000 in
theorem z1c1(hn:18446744073709551616<n)(hby:byte<256)(ha:at_<90000)(hL:L<1000):
  ∀(R P:List ArmT) (fu:Nat) (H:AHeap),R.length<fu→P.length+R.length=L→ArmsAt H ab (P++R)→z2ed at_ R→HasTz H→zbd z213 H.ex=false→RowH H h.next z3b0 [.int .i64 0,.int .i64 0,.int .i64 0]→h.next<H.next→h.next≠ab→(∀a∈P++R,a.nb≠h.next)→h.next ∉ z5a (P++R)→
   (∀(H':AHeap) (R':List ArmT),Tch (ab::z5a (P++R)) H H'→ArmsAt H' ab (P++R')→z2ed (at_+1) R'→R'.map z116=(z55 byte at_ (R.map z116)).2→R'.map (·.nb)=R.map (·.nb)→(∀b∈z5a (P++R'),b∈z5a (P++R)∨H.next≤b)→(z55 byte at_ (R.map z116)).1=none→(∀a∈R',zc4 a.v≠[])→Wp (k8 H') Q)→
   (∀(H':AHeap) (R':List ArmT) (z:Nat×Nat),Tch (h.next::ab::z5a (P++R)) H H'→ArmsAt H' ab (P++R')→z2ed (at_+1) R'→R'.map z116=(z55 byte at_ (R.map z116)).2→R'.map (·.nb)=R.map (·.nb)→(∀b∈z5a (P++R'),b∈z5a (P++R)∨H.next≤b)→(z55 byte at_ (R.map z116)).1=some z→Q (.ret (.tup [.agg (z44d P.length at_ (some z)),.bool true])) H')→
   Wp (z10d (world n (d+4)) (.sl ab 0 L 2) (byte:Int) (at_:Int) h (L:Int) k8 fu (P.length:Int) H) Q
 |_,_,0,_,hf,_,_,_,_,_,_,_,_,_,_,_,_=>by omega
 |[],P,fu+1,H,hf,hPL,k,hB,hT,hx,kh,hh,hab,hnb,hbl,hk,hq=>by
  have hPl:P.length=L:=hPL;rw[z155];unfold ze7
  ((with_reducible refine Wp.lett ?_))
  refine y6 (by rw[decide_eq_false_iff_not];omega) ?_;exact hk H [] (Tch.refl _ _) k (fun a ha=>nomatch ha) rfl rfl (fun b hb=>.inl hb) rfl (fun _ h=>nomatch h)
 |a::R,P,fu+1,H,hf,hPL,k,hB,hT,hx,kh,hh,hab,hnb,hbl,hk,hq=>by
  rw[List.length_cons] at hf hPL;have hPl:P.length<L:=by omega
  have hBa:=hB a List.mem_cons_self;obtain⟨ka,hne⟩:=k.at
  obtain⟨v',H1,e1,k1,⟨kv1,kne⟩,t1⟩:=z465 (n:=n) (d:=d) (byte:=byte) (at_:=at_) hT (k.net a (by simp)).1 hn hby ka hne (by omega) (fun x hx=>by
   have:=hBa.2 x hx;omega) (by omega) hx
  have hl1:∀b∈(zaa a.N byte (a.l++[(H.next,(false,0),at_)])).map (·.1),b∈a.l.map (·.1)∨H.next≤b:=by
   intro b hb;obtain⟨y,hy,rfl⟩:=List.mem_map.1 hb;obtain⟨x,hx,rfl⟩:=z233 hy;show x.1∈_∨H.next≤x.1
   rcases List.mem_append.1 hx with hx|hx
   ·exact .inl (List.mem_map_of_mem hx)
   ·rw [List.mem_singleton.1 hx]
    exact .inr (Nat.le_refl _)
  have kk:=k.step k1 (fun b hb=>.inr (kv1 b hb)) hl1 t1
  have hr:z359 a.N byte none (a.l++[(H.next,(false,0),at_)])=hitA byte at_ (z116 a):=by
   rw[hitX_W,List.map_append];rfl
  have ea:z116 {a with v:=v',l:=zaa a.N byte (a.l++[(H.next,(false,0),at_)])}=z495 byte at_ (z116 a):=by
   show (a.N,(zaa a.N byte (a.l++[(H.next,(false,0),at_)])).map (·.2))=_;rw[z4a5,List.map_append];rfl
  have hB1:(zaa a.N byte (a.l++[(H.next,(false,0),at_)])).length≤at_+1∧∀x∈zaa a.N byte (a.l++[(H.next,(false,0),at_)]),x.2.2<at_+1:=by
   refine⟨Nat.le_trans (z38b _) (by rw[List.length_append,List.length_singleton];omega),fun y hy=>?_⟩;obtain⟨x,hx,rfl⟩:=z233 hy;show x.2.2<at_+1
   rcases List.mem_append.1 hx with hx|hx
   ·have := hBa.2 x hx
    omega
   ·rw [List.mem_singleton.1 hx]
    exact Nat.lt_succ_self _
  have sub1:∀b∈ab::z46f a,b∈ab::z5a (P++a::R):=fun b hb=>by
   rcases List.mem_cons.1 hb with hb|hb
   ·rw [hb]
    exact List.mem_cons_self
   ·exact List.mem_cons_of_mem _ (z6c.2 ⟨a,by simp,hb⟩)
  have sub2:∀b∈z5a (P++{a with v:=v',l:=zaa a.N byte (a.l++[(H.next,(false,0),at_)])}::R),b∈z5a (P++a::R)∨H.next≤b:=by
   intro b hb;obtain⟨y,hy,hb⟩:=z6c.1 hb
   rcases List.mem_append.1 hy with hy|hy
   ·exact .inl (z6c.2 ⟨y,List.mem_append_left _ hy,hb⟩)
   rcases List.mem_cons.1 hy with rfl|hy
   ·rcases List.mem_append.1 hb with hb | hb
    ·exact .inr (kv1 b hb)
    ·rcases hl1 b hb with hb | hb
     ·exact .inl (z6c.2 ⟨a,by simp,List.mem_append_right _ hb⟩)
     ·exact .inr hb
   ·exact .inl (z6c.2 ⟨y,by simp[hy],hb⟩)
  have t1':Tch (ab::z5a (P++a::R)) H H1:=t1.mono fun b hb=>.inl (sub1 b hb)
  have hhS:h.next ∉ ab::z5a (P++a::R):=fun hb=>by
   rcases List.mem_cons.1 hb with hb|hb
   ·exact hab hb
   ·exact hbl hb
  have kh1:=kh.tch t1' hh hhS
  have hTz1:HasTz H1:=hT.tch t1' (fun hb=>by
   rcases List.mem_cons.1 hb with hb|hb
   ·exact z218 hT k.row hb
   ·obtain ⟨y, hy, hb⟩ := z6c.1 hb
    rcases List.mem_append.1 hb with hb|hb
    ·rcases k.sl y hy with ⟨e, _⟩ | ⟨c, rest, e, _, g, _⟩
     ·rw [e] at hb
      exact nomatch hb
     ·rw [e] at hb
      exact z218 hT g (List.mem_singleton.1 hb)
    ·obtain ⟨x, hx, e⟩ := List.mem_map.1 hb
     exact z218 hT (k.runs y hy x hx).1 e.symm)
  have hx1:zbd z213 H1.ex=false:=by rw[t1.2.1];exact hx
  have i1:=z262 (b:=ab) hPl;have el:(P.length:Int)+1=((P.length+1:Nat):Int):=by omega
  rw[z155];unfold ze7
  ((with_reducible refine Wp.lett ?_))
  refine y7 (by rw[decide_eq_true_eq];omega) ?_;refine Wp.obind i1 ?_;refine Wp.callN e1 ?_;refine Wp.obind (zf1 _ _) (Wp.obind (z5 _ _) (Wp.obind (zf0 _ _ _) (Wp.obind (z6 _) ?_)));rw[hr];have hh1:h.next<H1.next:=Nat.lt_of_lt_of_le hh t1.1;cases hz:hitA byte at_ (z116 a) with
  |some f=>
   refine y7 rfl ?_
   (((with_reducible refine ye ?_ ?_ ?_);omega;omega))
   rw[z10];refine Wp.stAll kh1 rfl rfl rfl fun H2 k2 t2 n2=>?_;refine Wp.obind (y12 k2 rfl) ?_;refine Wp.ret ?_
   have e9:z55 byte at_ ((a::R).map z116)=(some (0,f),z495 byte at_ (z116 a)::R.map z116):=by
    rw[List.map_cons,z55,hz]
   have:=hq H2 ({a with v:=v',l:=zaa a.N byte (a.l++[(H.next,(false,0),at_)])}::R) (0,f) ((t1'.mono fun b hb=>.inl (List.mem_cons_of_mem _ hb)).trans (t2.mono fun b hb=>.inl (by rw[List.mem_singleton.1 hb];exact List.mem_cons_self))) (kk.tch t2 (by simpa using hab.symm) (fun y hy hm=>?_) (fun b hb hm=>?_)) (fun y hy=>?_) (by rw[e9,List.map_cons,ea]) rfl sub2 (by rw[e9])
   ·exact this
   ·obtain rfl | hy : y = { a with v := v', l := zaa a.N byte (a.l ++ [(H.next, (false, 0), at_)]) } ∨ y ∈ P ++ a :: R := by
     rcases List.mem_append.1 hy with hy|hy
     ·exact .inr (List.mem_append_left _ hy)
     rcases List.mem_cons.1 hy with hy|hy
     ·exact .inl hy
     ·exact .inr (by simp[hy])
    ·exact hnb a (by simp) (List.mem_singleton.1 hm)
    ·exact hnb y hy (List.mem_singleton.1 hm)
   ·have hm := List.mem_singleton.1 hm
    subst hm
    rcases sub2 _ hb with hb|hb
    ·exact hbl hb
    ·omega
   ·rcases List.mem_cons.1 hy with rfl | hy
    ·exact hB1
    ·have := hB y (List.mem_cons_of_mem _ hy)
     exact⟨by omega,fun x hx=>Nat.lt_succ_of_lt (this.2 x hx)⟩
  |none=>
   refine y6 rfl ?_
   (((with_reducible refine ye ?_ ?_ ?_);omega;omega))
   rw[el]
   have e9:z55 byte at_ ((a::R).map z116)=((z55 byte at_ (R.map z116)).1.map (fun z=>(z.1+1,z.2)),z495 byte at_ (z116 a)::(z55 byte at_ (R.map z116)).2):=by
    rw[List.map_cons,z55,hz]
   have hsh:P++{a with v:=v',l:=zaa a.N byte (a.l++[(H.next,(false,0),at_)])}::R=(P++[{a with v:=v',l:=zaa a.N byte (a.l++[(H.next,(false,0),at_)])}])++R:=by simp
   rw[hsh] at kk sub2;have hPL1:(P++[{a with v:=v',l:=zaa a.N byte (a.l++[(H.next,(false,0),at_)])}]).length=P.length+1:=by rw[List.length_append,List.length_singleton]
   rw[←hPL1]
   have trS:∀b∈ab::z5a ((P++[{a with v:=v',l:=zaa a.N byte (a.l++[(H.next,(false,0),at_)])}])++R),b∈ab::z5a (P++a::R)∨H.next≤b:=fun b hb=>by
    rcases List.mem_cons.1 hb with hb|hb
    ·rw [hb]
     exact .inl List.mem_cons_self
    ·exact(sub2 b hb).imp (fun h=>List.mem_cons_of_mem _ h) id
   have reas:∀R':List ArmT,(P++[{a with v:=v',l:=zaa a.N byte (a.l++[(H.next,(false,0),at_)])}])++R'=P++{a with v:=v',l:=zaa a.N byte (a.l++[(H.next,(false,0),at_)])}::R':=fun R'=>by simp
   have hB2:∀{R':List ArmT},z2ed (at_+1) R'→z2ed (at_+1) ({a with v:=v',l:=zaa a.N byte (a.l++[(H.next,(false,0),at_)])}::R'):=fun hR y hy=>by
    rcases List.mem_cons.1 hy with rfl|hy
    ·exact hB1
    ·exact hR y hy
   have sub3:∀{R':List ArmT},(∀b∈z5a ((P++[{a with v:=v',l:=zaa a.N byte (a.l++[(H.next,(false,0),at_)])}])++R'),b∈z5a ((P++[{a with v:=v',l:=zaa a.N byte (a.l++[(H.next,(false,0),at_)])}])++R)∨H1.next≤b)→∀b∈z5a (P++{a with v:=v',l:=zaa a.N byte (a.l++[(H.next,(false,0),at_)])}::R'),b∈z5a (P++a::R)∨H.next≤b:=fun hR b hb=>by
    rw[←reas] at hb
    rcases hR b hb with hb|hb
    ·exact sub2 b hb
    ·exact .inr (Nat.le_trans t1.1 hb)
   refine z1c1 hn hby ha hL R _ fu H1 (by omega) (by omega) kk (fun y hy=>hB y (List.mem_cons_of_mem _ hy)) hTz1 hx1 kh1 hh1 hab (fun y hy=>?_) (fun hb=>?_) (fun H' R' t k' b' e' m' s' z' w'=>?_) (fun H' R' z t k' b' e' m' s' z'=>?_)
   ·rcases List.mem_append.1 hy with hy | hy
    ·rcases List.mem_append.1 hy with hy | hy
     ·exact hnb y (List.mem_append_left _ hy)
     ·rw [List.mem_singleton.1 hy]
      exact hnb a (by simp)
    ·exact hnb y (by simp[hy])
   ·rcases sub2 _ hb with hb | hb
    ·exact hbl hb
    ·omega
   ·refine hk H' ({a with v:=v',l:=zaa a.N byte (a.l++[(H.next,(false,0),at_)])}::R') (t1'.trans' t trS) (by rw[←reas];exact k') (hB2 b') (by rw[e9,List.map_cons,ea,e']) (by rw[List.map_cons,List.map_cons,m']) (sub3 s') (by rw[e9,z'];rfl) (fun y hy=>by
     rcases List.mem_cons.1 hy with rfl|hy
     ·exact kne
     ·exact w' y hy)
   ·have := hq H' ({ a with v := v', l := zaa a.N byte (a.l ++ [(H.next, (false, 0), at_)]) } :: R') (z.1 + 1, z.2) ((t1'.mono fun b hb => .inl (List.mem_cons_of_mem _ hb)).trans' t (fun b hb => by
     rcases List.mem_cons.1 hb with hb|hb
     ·rw [hb]
      exact .inl List.mem_cons_self
     ·exact(trS b hb).imp (fun h=>List.mem_cons_of_mem _ h) id)) (by rw[←reas];exact k') (hB2 b') (by rw[e9,List.map_cons,ea,e']) (by rw[List.map_cons,List.map_cons,m']) (sub3 s') (by rw[e9,z'];rfl)
    rw[hPL1]
    have eh:z44d (P.length+1) at_ (some z)=z44d P.length at_ (some (z.1+1,z.2)):=by
     show [AV.int .i64 ((P.length+1+z.1:Nat):Int),_,_]=[AV.int .i64 ((P.length+(z.1+1):Nat):Int),_,_];rw[show P.length+1+z.1=P.length+(z.1+1) by omega]
    rw[eh];exact this
end
abbrev TArms:Nat:=58
abbrev TPat:Nat:=51
section
variable {n d ab byte at_ L:Nat}{h:AHeap}{az:List ArmT}
theorem ArmsAt.tz(k:ArmsAt h ab az)(hT:HasTz h):0 ∉ ab::z5a az:=fun hb=>by
 rcases List.mem_cons.1 hb with hb|hb
 ·exact z218 hT k.row hb
 ·obtain ⟨y, hy, hb⟩ := z6c.1 hb
  rcases List.mem_append.1 hb with hb|hb
  ·rcases k.sl y hy with ⟨e, _⟩ | ⟨c, rest, e, _, g, _⟩
   ·rw [e] at hb
    exact nomatch hb
   ·rw [e] at hb
    exact z218 hT g (List.mem_singleton.1 hb)
  ·obtain ⟨x, hx, e⟩ := List.mem_map.1 hb
   exact z218 hT (k.runs y hy x hx).1 e.symm
theorem z270(hn:18446744073709551616<n)(hby:byte<256)(ha:at_<90000)(hL:az.length<1000)(k:ArmsAt h ab az)(hB:z2ed at_ az)(hT:HasTz h)(hx:h.ex=[]):
  ∃h' R',world n (d+5) 30 [.sl ab 0 az.length 2,.int .u8 (byte:Int),.int .i64 (at_:Int)] h=some (.ret (.tup [.agg (z44d 0 at_ (z55 byte at_ (az.map z116)).1),.bool (z55 byte at_ (az.map z116)).1.isSome]),h')∧Tch (ab::z5a az) h h'∧ArmsAt h' ab R'∧z2ed (at_+1) R'∧R'.map z116=(z55 byte at_ (az.map z116)).2∧R'.map (·.nb)=az.map (·.nb)∧(∀b∈z5a R',b∈z5a az∨h.next≤b)∧((z55 byte at_ (az.map z116)).1=none→∀a∈R',zc4 a.v≠[]):=by
 suffices hK:Wp (world n (d+5) 30 [.sl ab 0 az.length 2,.int .u8 (byte:Int),.int .i64 (at_:Int)] h) fun r h'=>∃R',r=.ret (.tup [.agg (z44d 0 at_ (z55 byte at_ (az.map z116)).1),.bool (z55 byte at_ (az.map z116)).1.isSome])∧Tch (ab::z5a az) h h'∧ArmsAt h' ab R'∧z2ed (at_+1) R'∧R'.map z116=(z55 byte at_ (az.map z116)).2∧R'.map (·.nb)=az.map (·.nb)∧(∀b∈z5a R',b∈z5a az∨h.next≤b)∧((z55 byte at_ (az.map z116)).1=none→∀a∈R',zc4 a.v≠[]) by
  obtain⟨_,h',e,R',rfl,k⟩:=hK;exact⟨h',R',e,k⟩
 rw[z35c];unfold z148;refine y9 (Mem.nil [] h) fun h2 M2=>?_;have t2:=M2.tch;have hlt:=M2.at0.2.1;have k2:=k.tch t2 (by simp) (fun _ _=>by simp) (fun _ _=>by simp)
 have habn:h.next≠ab:=by
  have:=k.hab;omega
 have hbl:h.next ∉ z5a az:=fun hb=>by
  have:=k.lt _ hb;omega
 have hnbs:∀a∈az,a.nb≠h.next:=fun a ha=>by
  have:=(k.net a ha).2.2;omega
 refine Wp.obind (show z160 (.sl ab 0 az.length 2)=some (az.length:Int) from rfl) ?_;refine y17 fun k8 ek8=>?_;have n2:=t2.1;refine z1c1 (n:=n) (d:=d) (h:=h) (L:=az.length) hn hby ha hL az [] n h2 (by omega) (by simp) k2 hB (hT.tch t2 (by simp)) (by rw[t2.2.1,hx];rfl) M2.at0.1 hlt habn hnbs hbl (fun H' R' t k' b' e' m' s' z' w'=>?_) (fun H' R' z t k' b' e' m' s' z'=>?_)
 ·rw [List.nil_append] at t k' s'
  have hS:h.next ∉ ab::z5a az:=fun hb=>by
   rcases List.mem_cons.1 hb with hb|hb
   ·exact habn hb
   ·exact hbl hb
  have kh:=M2.at0.1.tch t hlt hS;rw[ek8];rw[z10];refine Wp.stAll kh rfl rfl rfl fun H2 kk2 tt nn=>?_;refine Wp.obind (y12 kk2 rfl) ?_;rw[z'];refine Wp.ret ⟨R',rfl,?_,k'.tch tt ?_ (fun y hy hm=>?_) (fun b hb hm=>?_),b',e',m',fun b hb=>(s' b hb).imp id fun hh=>by omega,fun _=>w'⟩
  ·refine ((t2.mono fun b hb => nomatch hb).trans t).trans' tt fun b hb => ?_
   rw[List.mem_singleton.1 hb];exact .inr (Nat.le_refl _)
  ·intro hm
   exact habn (List.mem_singleton.1 hm).symm
  ·have : y.nb ∈ R'.map (·.nb) := List.mem_map_of_mem hy
   rw[m'] at this;obtain⟨w,hw,e⟩:=List.mem_map.1 this;exact hnbs w hw (e.trans (List.mem_singleton.1 hm))
  ·have hm := List.mem_singleton.1 hm
   subst hm
   rcases s' _ hb with hb|hb
   ·exact hbl hb
   ·omega
 ·rw [List.nil_append] at t k' s'
  rw[z'];refine⟨R',rfl,?_,k',b',e',m',fun b hb=>(s' b hb).imp id fun hh=>by omega,fun hh=>by cases hh⟩;refine(t2.mono fun b hb=>nomatch hb).trans' t fun b hb=>?_
  rcases List.mem_cons.1 hb with hb|hb
  ·rw [hb]
   exact .inr (Nat.le_refl _)
  ·exact .inl hb
end
theorem bldArm(b:Nat):z293 Tryd.prog z3b4 [(0,.ptr b 0)]=some [.ptr b 0,.nsl]:=by kernel_rfl
theorem bldSlArm(h:AHeap)(b:Nat):z147 Tryd.prog h TArms 1 [(0,.agg [.ptr b 0,.nsl])]=zaf h z3b4 [.ptr b 0,.nsl] 1 2:=by kernel_rfl
theorem fitArm:fitB Tryd.prog z3b4 32=true:=by kernel_rfl
def ArmOk(n d:Nat)(p:Int×Bytes)(t:Nd):Prop:=TreeP p.2 p.1 (.ok t)∧p.2.length≤64∧z159 t=false∧∀h:AHeap,h.ex=[]→(∃nb h',world n (d+1) 25 [.agg [.int .i64 p.1,z1f p.2]] h=some (.ret (.tup [.ptr nb 0,.int .i64 0]),h')∧Abs.Mem [] h h' [(nb,TNet,netC (z140 t))])∧world n (d+1) 44 [.agg [.int .i64 p.1,z1f p.2]] h=some (.ret (.bool false),h)
def ArmBad(n d:Nat)(p:Int×Bytes):Prop:=(∀h:AHeap,h.ex=[]→world n (d+1) 25 [.agg [.int .i64 p.1,z1f p.2]] h=some (.ret (.tup [.nilp,.int .i64 2]),h))∨∃t,TreeP p.2 p.1 (.ok t)∧z159 t=true∧∀h:AHeap,h.ex=[]→(∃nb h',world n (d+1) 25 [.agg [.int .i64 p.1,z1f p.2]] h=some (.ret (.tup [.ptr nb 0,.int .i64 0]),h')∧Abs.Mem [] h h' [(nb,TNet,netC (z140 t))])∧world n (d+1) 44 [.agg [.int .i64 p.1,z1f p.2]] h=some (.ret (.bool true),h)
theorem arm_or{n d:Nat}(hn:18446744073709551620<n)(hd:1100≤d)(p:Int×Bytes):(∃t,ArmOk n d p t)∨ArmBad n d p:=by
 rcases arm_all p.1 p.2 hn hd with hb|⟨t,tp,hl,ht⟩
 ·exact .inr (.inl fun h hx=>hb h (by rw[hx];rfl))
 ·cases he : z159 t with
  |false=>exact .inl ⟨t,tp,hl,he,fun h hx=>by have:=ht h (by rw[hx];rfl);rw[he] at this;exact this⟩
  |true=>exact .inr (.inr ⟨t,tp,he,fun h hx=>by have:=ht h (by rw[hx];rfl);rw[he] at this;exact this⟩)
inductive ArmsOk (n d:Nat):List (Int×Bytes)→List Nd→Prop
 |nil:ArmsOk n d [] []
 |cons {p:Int×Bytes} {t:Nd} {ps:List (Int×Bytes)} {ts:List Nd} (h:ArmOk n d p t) (k:ArmsOk n d ps ts):ArmsOk n d (p::ps) (t::ts)
theorem ArmsOk.len{n d:Nat}{ps:List (Int×Bytes)}{ts:List Nd}(k:ArmsOk n d ps ts):ts.length=ps.length:=by
 induction k with
 |nil=>rfl
 |cons _ _ ih=>rw[List.length_cons,List.length_cons,ih]
theorem arms_or{n d:Nat}(hn:18446744073709551620<n)(hd:1100≤d):∀ps:List (Int×Bytes),(∃ts,ArmsOk n d ps ts)∨∃pre ts p post,ps=pre++p::post∧ArmsOk n d pre ts∧ArmBad n d p
 |[]=>.inl ⟨[],.nil⟩
 |p::ps=>by
  rcases arm_or hn hd p with⟨t,ht⟩|hb
  ·rcases arms_or hn hd ps with ⟨ts, hts⟩ | ⟨pre, ts, q, post, rfl, h1, h2⟩
   ·exact .inl ⟨t::ts,.cons ht hts⟩
   ·exact .inr ⟨p::pre,t::ts,q,post,rfl,.cons ht h1,h2⟩
  ·exact .inr ⟨[],[],p,ps,rfl,.nil,hb⟩
noncomputable def z46c(p:Int×Bytes):List AV:=[.int .i64 p.1,z1f p.2]
abbrev z2ec:=List (Nat×Nd)
noncomputable def z498(D:z2ec):List zd9:=D.map fun x=>(x.1,TNet,netC (z140 x.2))
noncomputable def z466(D:z2ec):List (List AV):=D.map fun x=>[.ptr x.1 0,.nsl]
section
variable {n d:Nat}{h0:AHeap}{v:AV}{ps:List (Int×Bytes)}{Q:ARes→AHeap→Prop}{k15:AV→AHeap→R}
theorem z212(hx:h0.ex=[])(kp:Slc h0.next h0 2 v (ps.map z46c))(hps:ps.length≤8):
  ∀(pre:List (Int×Bytes)) (ts:List Nd) (post:List (Int×Bytes)) (i fu:Nat) (D:z2ec) (v4:AV) (T:List zd9) (H:AHeap),ArmsOk n d pre ts→ps.drop i=pre++post→pre.length<fu→D.length=i→GrowT z3b4 2 (z466 D) v4 T→Abs.Mem [] h0 H (z498 D++T)→
   (∀(D':z2ec) (v':AV) (T':List zd9) (H':AHeap) (fu':Nat),D'.map (·.2)=D.map (·.2)++ts→GrowT z3b4 2 (z466 D') v' T'→Abs.Mem [] h0 H' (z498 D'++T')→fu'+pre.length=fu→Wp (za6 (world n (d+1)) v (ps.length:Int) k15 fu' v' ((i+pre.length:Nat):Int) H') Q)→
   Wp (za6 (world n (d+1)) v (ps.length:Int) k15 fu v4 (i:Int) H) Q
 |_,_,_,_,0,_,_,_,_,_,_,hf,_,_,_,_=>by omega
 |[],ts,post,i,fu+1,D,v4,T,H,ka,hd,hf,hD,g,M,hk=>by
  cases ka
  exact hk D v4 T H (fu+1) (by rw[List.append_nil]) g M rfl
 |p::pre,ts,post,i,fu+1,D,v4,T,H,ka,hd,hf,hD,g,M,hk=>by
  cases ka with
  |cons ha ka=>
   rename_i t ts;rw[List.length_cons] at hf;obtain⟨hi,hp,hd2⟩:=z15b hd;have hxH:∀{h1:AHeap} {rs:List zd9},Abs.Mem [] h0 h1 rs→h1.ex=[]:=fun M=>by rw[M.ex,hx]
   obtain⟨b,hb,x1,y1⟩:=(kp.tch M.tch (Nat.le_refl _) (by simp)).row (i:=i) (by rw[List.length_map];exact hi);rw[List.getElem_map,hp] at y1;have el:(i:Int)+1=((i+1:Nat):Int):=by omega
   have o2:(z46c p).all AV.one=true:=rfl;rw[zdf];unfold z94
   ((with_reducible refine Wp.lett ?_))
   refine y7 (by rw[decide_eq_true_eq];omega) ?_;refine Wp.obind x1 (Wp.obind y1 ?_);refine y9 M fun h2 M2=>?_;rw[z10];refine y11 M2 rfl rfl o2 fun h3 M3=>?_;refine y15 M3 rfl ?_;obtain⟨⟨nb,h4,e4,N4⟩,_⟩:=ha.2.2.2 h3 (hxH M3);refine Wp.callN e4 ?_;have M4:=Mem.frame (xs:=[]) M3 N4;simp only[List.cons_append,List.nil_append] at M4;refine Wp.obind (zf1 _ _) (Wp.obind (zf0 _ _ _) (Wp.obind (z5 _ _) ?_))
   ((with_reducible refine Wp.lett ?_))
   refine y17 fun j33 ej33=>?_;refine y6 rfl ?_;refine y1f M4 rfl ?_;refine Wp.callN (ha.2.2.2 h4 (hxH M4)).2 ?_;refine Wp.obind (z6 _) ?_;rw[ej33];refine y6 rfl ?_;refine Wp.obind (bldArm _) ?_
   have M5:Abs.Mem [] h0 h4 ((nb,TNet,netC (z140 t))::z498 D++T):=by
    refine⟨fun x hx=>M4.row x ?_,?_,M4.tch⟩
    ·rw [List.cons_append] at hx
     rcases List.mem_cons.1 hx with hx|hx
     ·rw [hx]
      exact List.mem_cons_self
     ·exact List.mem_cons_of_mem _ (List.mem_cons_of_mem _ hx)
    ·have ap := M4.apart
     rw[List.map_cons,List.map_cons] at ap;rw[List.cons_append,List.map_cons];exact ap.sublist ((List.sublist_cons_self _ _).cons_cons _)
   refine y2d M5 (bldSlArm _ _) rfl (by rw[hx];rfl) fun h6 M6=>?_;have hDl:(z466 D).length=i:=by rw[z466,List.length_map,hD]
   refine Wp.grow (P:=Tryd.prog) (sz:=2) (B:=32) M6 g (by kernel_rfl) (by kernel_rfl) (by kernel_rfl) fitArm (by rw[hx];rfl) rfl rfl (by rw[hDl];omega) (by rw[hDl];omega) fun v7 h7 T7 g7 M7=>?_
   (((with_reducible refine ye ?_ ?_ ?_);omega;omega))
   rw[el]
   have e9:∀D:z2ec,z466 (D++[(nb,t)])=z466 D++[[.ptr nb 0,.nsl]]:=fun D=>by
    unfold z466;rw[List.map_append];rfl
   refine z212 hx kp hps pre ts post (i+1) fu (D++[(nb,t)]) v7 T7 h7 ka hd2 (by omega) (by rw[List.length_append,List.length_singleton,hD]) (by rw[e9];exact g7) ?_ fun D' v' T' H' fu' a1 a2 a3 a4=>?_
   ·refine M7.perm ?_
    unfold z498;rw[List.map_append];exact(List.perm_append_comm (l₁:=[(nb,TNet,netC (z140 t))])).append_right _ |>.symm
   ·have := hk D' v' T' H' fu' (by rw [a1, List.map_append, List.append_assoc]; rfl) a2 a3 (by rw [List.length_cons]; omega)
    rw[List.length_cons,show i+(pre.length+1)=i+1+pre.length by omega] at this;exact this
end
noncomputable def z1c9(D:z2ec):List ArmT:=D.map fun x=>⟨x.1,z140 x.2,.nsl,[]⟩
theorem z4b0:∀D:z2ec,z113 (z1c9 D)=(z466 D).flatten
 |[]=>rfl
 |x::D=>by
  show [AV.ptr x.1 0,.nsl]++z113 (z1c9 D)=[AV.ptr x.1 0,.nsl]++(z466 D).flatten;rw[z4b0 D]
theorem z393:∀D:z2ec,z5a (z1c9 D)=[]
 |[]=>rfl
 |x::D=>by
  show z46f ⟨x.1,z140 x.2,.nsl,[]⟩++z5a (z1c9 D)=[];rw[z393 D];rfl
theorem z4af(D:z2ec):(z1c9 D).map z116=(D.map (·.2)).map fun t=>(z140 t,[]):=by
 unfold z1c9;rw[List.map_map,List.map_map];rfl
def Fresh(h h':AHeap)(ab:Nat)(az:List ArmT)(ts:List Nd):Prop:=Tch [] h h'∧ArmsAt h' ab az∧az.map z116=ts.map (fun t=>(z140 t,[]))∧h.next≤ab∧z5a az=[]∧(∀a∈az,h.next≤a.nb)∧z2ed 0 az
theorem fresh_of{h H:AHeap}{D:z2ec}{v:AV}{T:List zd9}{ts:List Nd}(g:GrowT z3b4 2 (z466 D) v T)(M:Abs.Mem [] h H (z498 D++T))(hD:D.map (·.2)=ts)(hne:ts≠[]):∃ab,v=.sl ab 0 (z1c9 D).length 2∧Fresh h H ab (z1c9 D) ts:=by
 rcases g.2 with⟨h1,_,_⟩|⟨_,c,h2,rfl⟩
 ·have : D = [] := List.map_eq_nil_iff.1 h1
  rw[this] at hD;exact absurd hD.symm hne
 refine⟨c,?_,M.tch,?_,?_,?_,z393 D,fun a ha=>?_,fun a ha=>?_⟩
 ·rw [h2]
  unfold z466 z1c9;rw[List.length_map,List.length_map]
 ·have mc := M.row (c, z3b4, (z466 D).flatten) (by simp)
  have ap:=M.apart;rw[List.map_append,List.nodup_append] at ap
  have nets:∀a∈z1c9 D,∃x∈D,a=⟨x.1,z140 x.2,.nsl,[]⟩:=fun a ha=>by
   obtain⟨x,hx,e⟩:=List.mem_map.1 ha;exact⟨x,hx,e.symm⟩
  refine⟨by rw[z4b0];exact mc.1,mc.2.1,fun a ha=>?_,fun a ha=>?_,fun a ha=>?_,fun a ha=>?_,fun a ha=>?_,fun b=>if b=c then 0 else 1,if_pos rfl,fun a ha=>?_,fun i a ha b hb=>?_⟩
  ·obtain ⟨x, hx, rfl⟩ := nets a ha
   have:=M.row (x.1,TNet,netC (z140 x.2)) (List.mem_append_left _ (List.mem_map_of_mem hx));exact⟨netOf_ok _,this.1,this.2.1⟩
  ·obtain ⟨x, hx, rfl⟩ := nets a ha
   exact .inl ⟨rfl,rfl,rfl⟩
  ·obtain ⟨x, hx, rfl⟩ := nets a ha
   exact fun _ h=>nomatch h
  ·obtain ⟨x, hx, rfl⟩ := nets a ha
   exact .nil
  ·obtain ⟨x, hx, rfl⟩ := nets a ha
   exact fun _ h=>nomatch h
  ·obtain ⟨x, hx, rfl⟩ := nets a ha
   refine if_neg fun e=>?_;exact ap.2.2 x.1 (List.mem_map_of_mem (List.mem_map_of_mem (f:=fun x:Nat×Nd=>((x.1,TNet,netC (z140 x.2)):zd9)) hx)) c (by simp) e
  ·obtain ⟨x, hx, rfl⟩ := nets a (List.mem_of_getElem? ha)
   exact nomatch hb
 ·rw[z4af,hD]
 ·exact(M.row (c,z3b4,(z466 D).flatten) (by simp)).2.2.resolve_left (by simp)
 ·obtain ⟨x, hx, rfl⟩ := List.mem_map.1 ha
  exact(M.row (x.1,TNet,netC (z140 x.2)) (List.mem_append_left _ (List.mem_map_of_mem hx))).2.2.resolve_left (by simp)
 ·obtain ⟨x, hx, rfl⟩ := List.mem_map.1 ha
  exact⟨Nat.le_refl _,fun _ h=>nomatch h⟩
def May(n d:Nat)(ps:List (Int×Bytes))(ts:List Nd):Prop:=1≤ps.length∧ps.length≤8∧ArmsOk n d ps ts
section
variable {n d:Nat}{h:AHeap}{v:AV}{ps:List (Int×Bytes)}{ts:List Nd}{s:Bytes}
theorem z3a8(hn:1000<n)(k:May n d ps ts)(hx:h.ex=[])(kp:Slc h.next h 2 v (ps.map z46c)):∃ab h' az,world n (d+2) 29 [v] h=some (.ret (.tup [.sl ab 0 az.length 2,.int .i64 0]),h')∧Fresh h h' ab az ts:=by
 obtain⟨k1,k2,k3⟩:=k
 suffices hK:Wp (world n (d+2) 29 [v] h) fun r h'=>∃ab az,r=.ret (.tup [.sl ab 0 az.length 2,.int .i64 0])∧Fresh h h' ab az ts by
  obtain⟨_,h',e,ab,az,rfl,k⟩:=hK;exact⟨ab,h',az,e,k⟩
 rw[z1ed];unfold zd3;have e1:=kp.len;rw[List.length_map] at e1;have q1:((ps.length:Int) == 0)=false:=by rw[beq_eq_false_iff_ne];omega
 have q2:decide ((ps.length:Int)>8)=false:=by rw[decide_eq_false_iff_not];omega
 refine Wp.obind e1 ?_;rw[q1];refine y17 fun t11 et=>?_;refine y17 fun j16 ej=>?_;subst et;refine y6 rfl ?_;refine Wp.obind e1 ?_;rw[q2];refine y17 fun t15 et=>?_;subst et;rw[ej];refine y6 rfl ?_;refine Wp.obind e1 ?_;refine y17 fun k15 ek=>?_;refine z212 hx kp k2 ps ts [] 0 n [] .nsl [] h k3 (by rw[List.append_nil];rfl) (by omega) rfl (GrowT.nil _ _) (Mem.nil [] h) fun D' v' T' H' fu' a1 a2 a3 a4=>?_
 obtain⟨ab,e5,fr⟩:=fresh_of (ts:=ts) a2 a3 a1 (fun e=>by
  have:=k3.len;rw[e] at this;have:0=ps.length:=this;omega)
 obtain⟨fu',rfl⟩:∃f,fu'=f+1:=⟨fu' - 1,by omega⟩;rw[zdf];unfold z94
 ((with_reducible refine Wp.lett ?_))
 refine y6 (by rw[decide_eq_false_iff_not];omega) ?_;rw[ek,e5];exact Wp.ret ⟨ab,z1c9 D',rfl,fr⟩
theorem z464(hn:18446744073709551620<n)(hd:1100≤d)(k:¬ ∃ts,May n d ps ts)(hx:h.ex=[])(kp:Slc h.next h 2 v (ps.map z46c))(hbig:ps.length<1000000000000000000):∃h',world n (d+2) 29 [v] h=some (.ret (.tup [.nsl,.int .i64 2]),h')∧Tch [] h h':=by
 suffices hK:Wp (world n (d+2) 29 [v] h) fun r h'=>r=.ret (.tup [.nsl,.int .i64 2])∧Tch [] h h' by
  obtain⟨_,h',e,rfl,k⟩:=hK;exact⟨h',e,k⟩
 rw[z1ed];unfold zd3;have e1:=kp.len;rw[List.length_map] at e1;refine Wp.obind e1 ?_;refine y17 fun t11 et=>?_;refine y17 fun j16 ej=>?_
 by_cases h0:ps.length=0
 ·refine y7 (by rw [et, beq_iff_eq]; omega) ?_
  rw[ej];refine y7 rfl ?_;exact Wp.ret ⟨rfl,Tch.refl _ _⟩
 refine y6 (by rw[et,beq_eq_false_iff_ne];omega) ?_;refine Wp.obind e1 ?_;refine y17 fun t15 et2=>?_;rw[ej]
 by_cases h8:8<ps.length
 ·refine y7 (by rw [et2, decide_eq_true_eq]; omega) ?_
  exact Wp.ret ⟨rfl,Tch.refl _ _⟩
 refine y6 (by rw[et2,decide_eq_false_iff_not];omega) ?_;refine Wp.obind e1 ?_;refine y17 fun k15 ek=>?_
 rcases arms_or hn hd ps with⟨ts,hts⟩|⟨pre,ts,p,post,hps,h1,h2⟩
 ·exact absurd ⟨ts,by omega,by omega,hts⟩ k
 have hl:ps.length=pre.length+(post.length+1):=by rw[hps,List.length_append,List.length_cons]
 refine z212 hx kp (by omega) pre ts (p::post) 0 n [] .nsl [] h h1 hps (by omega) rfl (GrowT.nil _ _) (Mem.nil [] h) fun D' v' T' H' fu' a1 a2 a3 a4=>?_;obtain⟨fu',rfl⟩:∃f,fu'=f+1:=⟨fu' - 1,by omega⟩;rw[Nat.zero_add];obtain⟨b,hb,x1,y1⟩:=(kp.tch a3.tch (Nat.le_refl _) (by simp)).row (i:=pre.length) (by rw[List.length_map];omega)
 have hpi:ps[pre.length]'(by omega)=p:=by
  have:ps[pre.length]? =some p:=by rw[hps];simp
  rw[List.getElem?_eq_getElem (by omega)] at this;exact Option.some.inj this
 rw[List.getElem_map,hpi] at y1;have hxH:∀{h1:AHeap} {rs:List zd9},Abs.Mem [] h h1 rs→h1.ex=[]:=fun M=>by rw[M.ex,hx]
 rw[zdf];unfold z94
 ((with_reducible refine Wp.lett ?_))
 refine y7 (by rw[decide_eq_true_eq];omega) ?_;refine Wp.obind x1 (Wp.obind y1 ?_);refine y9 a3 fun h2 M2=>?_;rw[z10];refine y11 M2 rfl rfl rfl fun h3 M3=>?_;refine y15 M3 rfl ?_
 rcases ‹ArmBad n d p› with hb|⟨t,_,_,ht⟩
 ·refine Wp.callN (hb h3 (hxH M3)) ?_
  refine Wp.obind (zf1 _ _) (Wp.obind (zf0 _ _ _) (Wp.obind (z5 _ _) ?_))
  ((with_reducible refine Wp.lett ?_))
  refine y17 fun j33 ej33=>?_;refine y7 rfl ?_;rw[ej33];refine y7 rfl ?_;exact Wp.ret ⟨rfl,M3.tch⟩
 ·obtain ⟨⟨nb, h4, e4, N4⟩, _⟩ := ht h3 (hxH M3)
  refine Wp.callN e4 ?_;have M4:=Mem.frame (xs:=[]) M3 N4;simp only[List.cons_append,List.nil_append] at M4;refine Wp.obind (zf1 _ _) (Wp.obind (zf0 _ _ _) (Wp.obind (z5 _ _) ?_))
  ((with_reducible refine Wp.lett ?_))
  refine y17 fun j33 ej33=>?_;refine y6 rfl ?_;refine y1f M4 rfl ?_;refine Wp.callN (ht h4 (hxH M4)).2 ?_;refine Wp.obind (z6 _) ?_;rw[ej33];refine y7 rfl ?_;exact Wp.ret ⟨rfl,M4.tch⟩
def z180:List z357→Bytes→Nat→Option (Nat×Nat×Nat)
 |_,[],_=>none
 |A,c::s,i=>match (z55 c.toNat i A).1 with
  |some z=>some (z.1,z.2,i+1)
  |none=>z180 (z55 c.toNat i A).2 s (i+1)
noncomputable def z41e:Option (Nat×Nat×Nat)→List AV
 |some z=>[.int .i64 (z.1:Int),.int .i64 (z.2.1:Int),.int .i64 (z.2.2:Int)]
 |none=>[.int .i64 0,.int .i64 0,.int .i64 0]
theorem z4ac{i:Nat}{z:Nat×Nat}:z44d 0 i (some z)=z41e (some (z.1,z.2,i+1)):=by
 show [AV.int .i64 ((0+z.1:Nat):Int),_,AV.int .i64 ((i:Int)+1)]=[AV.int .i64 (z.1:Int),_,AV.int .i64 ((i+1:Nat):Int)];rw[Nat.zero_add];rfl
theorem z310{h0:AHeap}{ab L:Nat}{k20:AHeap→R}{Q:ARes→AHeap→Prop}(hn:18446744073709551616<n)(hs:s.length<80000)(hL:L<1000):
  ∀(m i fu:Nat) (az:List ArmT) (H:AHeap),m<fu→i+m=s.length→az.length=L→ArmsAt H ab az→z2ed i az→HasTz H→H.ex=[]→RowH H h.next z3b0 [.int .i64 0,.int .i64 0,.int .i64 0]→h.next<H.next→h.next≠ab→(∀a∈az,a.nb≠h.next)→h.next ∉ z5a az→h0.next≤h.next→h0.next≤ab→(∀b∈z5a az,h0.next≤b)→Tch [] h0 H→
   (∀H',Tch [] h0 H'→RowH H' h.next z3b0 [.int .i64 0,.int .i64 0,.int .i64 0]→z180 (az.map z116) (s.drop i) i=none→Wp (k20 H') Q)→
   (∀H' z,Tch [] h0 H'→z180 (az.map z116) (s.drop i) i=some z→Q (.ret (.tup [.agg (z41e (some z)),.bool true])) H')→
   Wp (ze8 (world n (d+5)) s h (.sl ab 0 L 2) k20 fu (i:Int) H) Q
 |_,_,0,_,_,hf,_,_,_,_,_,_,_,_,_,_,_,_,_,_,_,_,_=>by omega
 |0,i,fu+1,az,H,hf,hm,hl,k,hB,hT,hx,kh,hh,hab,hnb,hbl,g0,g1,g2,t0,hk,hq=>by
  have ll:=z77 s;rw[z136];unfold zd5
  repeat(first|(with_reducible refine Wp.lett ?_)|((with_reducible refine y6 ?_ ?_;apply decide_eq_false);omega))
  exact hk H t0 kh (by rw[List.drop_of_length_le (by omega)];rfl)
 |m+1,i,fu+1,az,H,hf,hm,hl,k,hB,hT,hx,kh,hh,hab,hnb,hbl,g0,g1,g2,t0,hk,hq=>by
  have ll:=z77 s;have hi:i<s.length:=by omega
  have hxs:=z290 hi;have el:(i:Int)+1=((i+1:Nat):Int):=by omega
  rw[List.drop_eq_getElem_cons hi] at hk hq;subst hl;obtain⟨h1,R',e1,t1,k1,b1,a1,n1,s1,_⟩:=z270 (n:=n) (d:=d) (at_:=i) hn (byte_lt hi) (by omega) hL k hB hT hx
  have hhS:h.next ∉ ab::z5a az:=fun hb=>by
   rcases List.mem_cons.1 hb with hb|hb
   ·exact hab hb
   ·exact hbl hb
  have kh1:=kh.tch t1 hh hhS;have hh1:h.next<h1.next:=Nat.lt_of_lt_of_le hh t1.1
  have t01:Tch [] h0 h1:=t0.trans' t1 fun b hb=>by
   rcases List.mem_cons.1 hb with hb|hb
   ·rw [hb]
    exact .inr g1
   ·exact .inr (g2 b hb)
  have hT1:=hT.tch t1 (k.tz hT);rw[z136];unfold zd5
  ((with_reducible refine Wp.lett ?_))
  refine y7 (by rw[decide_eq_true_eq];omega) ?_;refine Wp.obind hxs ?_;refine Wp.callN e1 ?_;refine Wp.obind (zf1 _ _) (Wp.obind (z13 _) (Wp.obind (zf0 _ _ _) (Wp.obind (z6 _) ?_)));refine y9 (Mem.nil [] h1) fun h2 M2=>?_;rw[z10];have hfl:∀r,(z44d 0 i r).length=3∧(z44d 0 i r).all AV.one=true:=fun r=>by cases r<;>exact⟨rfl,rfl⟩
  refine y11 M2 (hfl _).1 rfl (hfl _).2 fun h3 M3=>?_;have kh3:=kh1.tch M3.tch hh1 (by simp);cases hz:(z55 (s[i]).toNat i (az.map z116)).1 with
  |some z=>
   rw[hz] at M3;refine y7 rfl ?_;refine y15 M3 (hfl _).1 ?_;rw[z10];refine Wp.stAll kh3 (hfl _).1 rfl (hfl _).2 fun h4 k4 t4 n4=>?_;refine Wp.obind (y12 k4 (hfl _).1) ?_;rw[z4ac];refine Wp.ret (hq h4 _ ((t01.trans M3.tch).trans' t4 fun b hb=>by rw[List.mem_singleton.1 hb];exact .inr g0) ?_);show z180 (az.map z116) (s[i]::s.drop (i+1)) i=_;rw[z180,hz]
  |none=>
   refine y6 rfl ?_
   (((with_reducible refine ye ?_ ?_ ?_);omega;omega))
   rw[el];have e9:z180 (az.map z116) (s[i]::s.drop (i+1)) i=z180 (R'.map z116) (s.drop (i+1)) (i+1):=by rw[z180,hz,a1]
   have hlR:R'.length=az.length:=by
    have:=congrArg List.length n1;rw[List.length_map,List.length_map] at this;exact this
   have k3:=k1.tch M3.tch (by simp) (fun _ _=>by simp) (fun _ _=>by simp);have hn1:H.next≤h1.next:=t1.1;have hnx:h0.next≤H.next:=t0.1;refine z310 hn hs hL m (i+1) fu R' h3 (by omega) (by omega) hlR k3 b1 (hT1.tch M3.tch (by simp)) (by rw[M3.ex,t1.2.1,hx]) kh3 (Nat.lt_of_lt_of_le hh1 M3.tch.1) hab (fun y hy e=>?_) (fun hb=>?_) g0 g1 (fun b hb=>?_) (t01.trans M3.tch) (fun H' t' q' z'=>hk H' t' q' (by rw[e9];exact z')) (fun H' z t' z'=>hq H' z t' (by rw[e9];exact z'))
   ·have : y.nb ∈ R'.map (·.nb) := List.mem_map_of_mem hy
    rw[n1] at this;obtain⟨w,hw,e2⟩:=List.mem_map.1 this;exact hnb w hw (e2.trans e)
   ·rcases s1 _ hb with hb | hb
    ·exact hbl hb
    ·omega
   ·rcases s1 _ hb with hb | hb
    ·exact g2 b hb
    ·omega
theorem z238(hn:18446744073709551620<n)(k:May n (d+3) ps ts)(hx:h.ex=[])(hT:HasTz h)(kp:Slc h.next h 2 v (ps.map z46c))(hs:s.length<80000):
  ∃h',world n (d+6) 14 [v,z1f s] h=some (.ret (.tup [.agg (z41e (z180 (ts.map fun t=>(z140 t,[])) s 0)),.bool (z180 (ts.map fun t=>(z140 t,[])) s 0).isSome]),h')∧Tch [] h h':=by
 suffices hK:Wp (world n (d+6) 14 [v,z1f s] h) fun r h'=>r=.ret (.tup [.agg (z41e (z180 (ts.map fun t=>(z140 t,[])) s 0)),.bool (z180 (ts.map fun t=>(z140 t,[])) s 0).isSome])∧Tch [] h h' by
  obtain⟨_,h',e,rfl,k⟩:=hK;exact⟨h',e,k⟩
 rw[z324];unfold z11e;refine y9 (Mem.nil [] h) fun h2 M2=>?_;have t2:=M2.tch;have hx2:h2.ex=[]:=by rw[M2.ex,hx]
 have kp2:Slc h2.next h2 2 v (ps.map z46c):=kp.keep t2.1 fun b o hb ho=>by rw[t2.2.2 b hb (by simp)];exact ho
 obtain⟨ab,h3,az,e3,fr⟩:=z3a8 (n:=n) (d:=d+3) (by omega) k hx2 kp2;refine Wp.callN e3 ?_;obtain⟨t3,ka,ha,hab,hblk,hnbs,hB⟩:=fr;have hhl:=M2.at0.2.1
 have hlen:az.length=ts.length:=by
  have:=congrArg List.length ha;rw[List.length_map,List.length_map] at this;exact this
 have hts:=k.2.2.len;have h8:=k.2.1;refine Wp.obind (zf1 _ _) (Wp.obind (zf0 _ _ _) (Wp.obind (z5 _ _) ?_))
 ((with_reducible refine Wp.lett ?_))
 refine y6 rfl ?_;refine y17 fun k20 ek=>?_;have n2:=t2.1;have n3:=t3.1;refine z310 (n:=n) (d:=d) (h:=h) (h0:=h) (s:=s) (by omega) hs (L:=az.length) (by omega) s.length 0 n az h3 (by omega) (Nat.zero_add _) rfl ka hB (hT.tch (t2.trans t3) (by simp)) (by rw[t3.2.1,hx2]) (M2.at0.1.tch t3 hhl (by simp)) (by omega) (by omega) (fun a ha=>by have:=hnbs a ha;omega) (by rw[hblk];simp) (Nat.le_refl _) (by omega) (by rw[hblk];simp) (t2.trans t3) (fun H' t' q' z'=>?_) (fun H' z t' z'=>?_)
 ·rw [ha, List.drop_zero] at z'
  rw[ek,z10,z'];refine Wp.stAll q' rfl rfl rfl fun h4 k4 t4 n4=>?_;refine Wp.obind (y12 k4 rfl) ?_;exact Wp.ret ⟨rfl,t'.trans' t4 fun b hb=>by rw[List.mem_singleton.1 hb];exact .inr (Nat.le_refl _)⟩
 ·rw [ha, List.drop_zero] at z'
  rw[z'];exact⟨rfl,t'⟩
end
abbrev TBy:Nat:=76
theorem bldSlBy(h:AHeap)(v:Int):z147 Tryd.prog h TBy 1 [(0,.int .u8 v)]=zaf h 5 [.int .u8 v] 1 1:=by kernel_rfl
theorem fitBy:fitB Tryd.prog 5 1=true:=by kernel_rfl
def BufAt(h:AHeap)(v:AV)(u:Bytes):Prop:=(v=.nsl∧u=[])∨∃c rest,v=.sl c 0 u.length 1∧RowH h c 5 (z64 u++rest)∧c<h.next
section
variable {h h':AHeap}{v:AV}{u:Bytes}{b1 c0:Nat}
theorem BufAt.tch{S:List Nat}(k:BufAt h v u)(t:Tch S h h')(hd:∀b∈zc4 v,b ∉ S):BufAt h' v u:=by
 rcases k with k|⟨c,rest,rfl,h2,h3⟩
 ·exact .inl k
 ·exact .inr ⟨c,rest,rfl,h2.tch t h3 (hd c (List.mem_singleton.2 rfl)),Nat.lt_of_lt_of_le h3 t.1⟩
theorem BufAt.lt(k:BufAt h v u):∀b∈zc4 v,b<h.next:=by
 rcases k with⟨rfl,_⟩|⟨c,rest,rfl,_,h3⟩
 ·exact fun b hb=>nomatch hb
 ·intro b hb
  rw[List.mem_singleton.1 hb];exact h3
theorem BufAt.len(k:BufAt h v u):z160 v=some (u.length:Int):=by
 rcases k with⟨rfl,rfl⟩|⟨c,rest,rfl,_⟩<;>rfl
theorem BufAt.push(k:BufAt h v u)(kr:RowH h b1 5 [.int .u8 (c0:Int)])(hc0:c0<256)(hm:u.length<1000000)(hx:h.ex=[]):
  ∃h',z72 Tryd.prog h TBy TBy v (.sl b1 0 1 1)=some (.val (.sl h.next 0 (u.length+1) 1),h')∧BufAt h' (.sl h.next 0 (u.length+1) 1) (u++[UInt8.ofNat c0])∧h.next<h'.next∧Tch (zc4 v) h h':=by
 have he:Abs.elemOf Tryd.prog TBy=some 5:=by kernel_rfl
 have hu:z22c Tryd.prog TBy=true:=by kernel_rfl
 have hsz:Tryd.prog.cellsOf 5=1:=by kernel_rfl
 have hex:zbd 5 h.ex=false:=by rw[hx];rfl
 have eb:z64 (u++[UInt8.ofNat c0])=z64 u++[.int .u8 (c0:Int)]:=by
  rw[z240];show z64 u++[AV.int .u8 ((UInt8.ofNat c0).toNat:Int)]=_;rw[UInt8.toNat_ofNat_of_lt' hc0]
 have el:u.length+1=(u++[UInt8.ofNat c0]).length:=by rw[List.length_append,List.length_singleton]
 rcases k with⟨rfl,rfl⟩|⟨c,rest,rfl,h2,h3⟩
 ·have a1 := z1df (P := Tryd.prog) (h := h) (t := TBy) (u := TBy) (n := 0) (x := .sl b1 0 1 1) he hu hsz rfl (z158 kr rfl) (zd7 fitBy (by omega) (by omega)) rfl hex
  refine⟨_,a1,.inr ⟨h.next,[],by rw[el],?_,Nat.lt_succ_self _⟩,Nat.lt_succ_self _,Tch.newH _ _ _ _⟩;rw[eb,List.append_nil];exact RowH.new _ _ _
 ·have hcl := zb5 u
  have a1:=z19a (P:=Tryd.prog) (h:=h) (t:=TBy) (u:=TBy) (b:=c) (o:=0) (m:=u.length) (n:=0) (x:=.sl b1 0 1 1) (cs:=z64 u) he hu hsz rfl (z158 kr rfl) (zd7 fitBy (by omega) (by omega)) rfl hex (by
   have:=h2.part (o:=0) (n:=(z64 u).length) (by rw[List.length_append];omega);rw[List.drop_zero,List.take_left' rfl] at this;rw[Nat.mul_one, ←hcl];exact this) h2.type
  refine⟨_,a1,.inr ⟨h.next,[],by rw[el],?_,Nat.lt_succ_self _⟩,Nat.lt_succ_self _,?_⟩
  ·rw [eb, List.append_nil]
   exact RowH.new (h.put c .dead) _ _
  ·exact(Tch.put (S:=[c]) (.inl (List.mem_singleton.2 rfl)) _).trans (Tch.newH _ _ _ _)
end
theorem z3a2{t e:TypeId}{h:AHeap}{c m sz j:Nat}{l:List AV}(he:Abs.elemOf Tryd.prog t=some e)(hi:(Tryd.prog.info? e).isSome=true)(hsz:Tryd.prog.cellsOf e=sz)(k:RowH h c e l)(hm:m*sz≤l.length)(hj:j≤m)(hone:((l.drop (j*sz)).take ((m - j)*sz)).all AV.one=true):
  ∃h',z228 Tryd.prog h t (.sl c 0 m sz) (.sl c (0+j*sz) (m - j) sz)=some (.val (.int .i64 ((m - j:Nat):Int)),h')∧RowH h' c e (laid l 0 ((l.drop (j*sz)).take ((m - j)*sz)))∧h'.next=h.next∧Tch [c] h h':=by
 have hlen:((l.drop (j*sz)).take ((m - j)*sz)).length=(m - j)*sz:=by
  rw[List.length_take,List.length_drop];have:(m - j)*sz=m*sz - j*sz:=Nat.sub_mul _ _ _;clear he hi hsz;omega
 have hle:(m - j)*sz≤m*sz:=Nat.mul_le_mul_right _ (Nat.sub_le _ _)
 obtain⟨h',e1,e2,e3,e4,e5⟩:=k.put (vs:=(l.drop (j*sz)).take ((m - j)*sz)) (o:=0) (by
  rw[hlen,Nat.zero_add];exact Nat.le_trans hle hm) hone
 refine⟨h',?_,e2,e3,z2f6 e3 e4 e5 (.inl (List.mem_singleton.2 rfl))⟩
 have hp:=k.part (o:=0+j*sz) (n:=(m - j)*sz) (by
  have:(m - j)*sz+j*sz=m*sz:=by rw[←Nat.add_mul,Nat.sub_add_cancel hj]
  clear he hi hsz;omega)
 rw[Nat.zero_add] at hp;have hmin:Nat.min (m - j) m=m - j:=Nat.min_eq_left (Nat.sub_le _ _);unfold z228;rw[he,show z2d9 (.sl c 0 m sz)=some m from rfl,show z2d9 (.sl c (0+j*sz) (m - j) sz)=some (m - j) from rfl];dsimp only;rw[hsz,hmin,z239 (Nat.le_refl _),Nat.zero_add,hp];dsimp only;rw[if_pos ⟨rfl,hi⟩,e1]
theorem copy_none{t e:TypeId}{h:AHeap}{c m sz:Nat}{l:List AV}(he:Abs.elemOf Tryd.prog t=some e)(hi:(Tryd.prog.info? e).isSome=true)(hsz:Tryd.prog.cellsOf e=sz)(k:RowH h c e l):
  ∃h',z228 Tryd.prog h t (.sl c 0 m sz) .esl=some (.val (.int .i64 ((0:Nat):Int)),h')∧RowH h' c e (laid l 0 [])∧h'.next=h.next∧Tch [c] h h':=by
 obtain⟨h',e1,e2,e3,e4,e5⟩:=k.put (vs:=[]) (o:=0) (by simp) rfl;refine⟨h',?_,e2,e3,z2f6 e3 e4 e5 (.inl (List.mem_singleton.2 rfl))⟩;have hmin:Nat.min 0 m=0:=Nat.zero_min _;unfold z228;rw[he,show z2d9 (.sl c 0 m sz)=some m from rfl,show z2d9 .esl=some 0 from rfl];dsimp only;rw[hmin,show z1f3 h (Tryd.prog.cellsOf e) 0 .esl=some [] from rfl];dsimp only;rw[if_pos ⟨hsz.symm,hi⟩,e1]
theorem z35b:∀l:List z1a3,(z9c l).all AV.one=true
 |[]=>rfl
 |x::l=>by
  rw[z9c,List.all_append,z35b l];rfl
theorem z2f2:∀(l:List z1a3) (j:Nat),(z9c l).drop (2*j)=z9c (l.drop j)
 |l,0=>rfl
 |[],j+1=>by
  rw[List.drop_nil];exact List.drop_nil
 |x::l,j+1=>by
  rw[z9c,List.drop_succ_cons, ←z2f2 l j,show 2*(j+1)=(z2f3 x).length+2*j from Nat.add_comm _ _,List.drop_append,List.drop_of_length_le (Nat.le_add_right _ _),Nat.add_sub_cancel_left];rfl
theorem z438{l:List z1a3}{rest:List AV}{i:Nat}(hi:i<l.length):(z9c l++rest)[0+i*2+1]? =some (.int .i64 ((l[i]).2.2:Int)):=by
 have e:z9c l=z9c (l.take i)++(z2f3 l[i]++z9c (l.drop (i+1))):=by
  have:=z175 (l.take i) (l.drop i);rw[List.take_append_drop] at this;rw[this,List.drop_eq_getElem_cons hi,z9c]
 have hl:(z9c (l.take i)).length=2*i:=by rw[za0,List.length_take];omega
 rw[e,List.append_assoc,List.getElem?_append_right (by omega),show 0+i*2+1 - (z9c (l.take i)).length=1 by omega];rfl
def z23d(f:Nat)(l:List z1a3):List z1a3:=l.dropWhile fun x=>decide (x.2.2<f)
theorem z349(f:Nat):∀l:List z1a3,∃j,j≤l.length∧z23d f l=l.drop j
 |[]=>⟨0,Nat.le_refl _,rfl⟩
 |x::l=>by
  unfold z23d;rw[List.dropWhile_cons]
  split
  ·obtain ⟨j, h1, h2⟩ := z349 f l
   exact⟨j+1,by rw[List.length_cons];omega,by rw[List.drop_succ_cons];exact h2⟩
  ·exact⟨0,Nat.zero_le _,rfl⟩
section
variable {N:Nt}{n d nb ab o f:Nat}{h:AHeap}{cells:List AV}{v:AV}{l:List z1a3}{Q:ARes→AHeap→Prop}{k4:Int→AHeap→R}
theorem z2c5{c:Nat}{rest:List AV}(ka:RowH h ab z3b4 cells)(hv:cells[o+1]? =some (.sl c 0 l.length 2))(kc:RowH h c z213 (z9c l++rest))(hl:l.length<1000000)(hx:∀x∈l,x.2.2<1000000000000):
  ∀(todo:List z1a3) (i fu:Nat),l.drop i=todo→i≤l.length→todo.length<fu→(∀j,j≤l.length→z23d f todo=l.drop j→Wp (k4 (j:Int) h) Q)→Wp (z8d (.ptr ab o) (f:Int) k4 fu (i:Int) h) Q
 |_,_,0,_,_,hf,_=>by omega
 |[],i,fu+1,hd,hi,hf,hk=>by
  have hli:=drop_nil hd;rw[zd4];unfold z7d;have cv:=y5 ka hv;have e1:z160 (.sl c 0 l.length 2)=some (l.length:Int):=rfl
  repeat(first|(with_reducible first|refine y8 (fun _ _=>?_)|refine Wp.lett ?_|(apply Wp.obind;first|exact z11 _ _|exact cv|exact e1|exact z9 _ _ _))|((with_reducible refine y6 ?_ ?_);first|(with_reducible rfl)|((with_reducible apply decide_eq_false);omega))|(with_reducible refine yd (by assumption) ?_))
  exact hk i hi (by rw[hd];rfl)
 |x::todo,i,fu+1,hd,hi,hf,hk=>by
  obtain⟨hli,hxi,hd2⟩:=z15b hd;rw[List.length_cons] at hf;have cv:=y5 ka hv;have e1:z160 (.sl c 0 l.length 2)=some (l.length:Int):=rfl;have e2:=z262 (b:=c) hli;have e3:=y5 kc (z438 (rest:=rest) hli);have hxb:=hx _ (List.getElem_mem hli);rw[hxi] at e3 hxb;have el:(i:Int)+1=((i+1:Nat):Int):=by omega
  rw[zd4];unfold z7d
  by_cases hlt:x.2.2<f
  ·repeat (first | (with_reducible refine y8 (fun _ _ => ?_)) | ((with_reducible refine ye ?_ ?_ ?_); omega; omega) | (with_reducible first | refine Wp.lett ?_ | (apply Wp.obind; first | exact z11 _ _ | exact cv | exact e1 | exact e2 | exact e3 | exact z5 _ _ | exact z9 _ _ _)) | ((with_reducible refine y7 ?_ ?_; apply decide_eq_true); omega) | (with_reducible refine yd (by assumption) ?_))
   rw[el];refine z2c5 ka hv kc hl hx todo (i+1) fu hd2 (by omega) (by omega) fun j hj e=>hk j hj ?_;rw[←e];unfold z23d;rw[List.dropWhile_cons,if_pos (decide_eq_true hlt)]
  ·repeat (first | (with_reducible first | refine y8 (fun _ _ => ?_) | refine Wp.lett ?_ | (apply Wp.obind; first | exact z11 _ _ | exact cv | exact e1 | exact e2 | exact e3 | exact z5 _ _ | exact z9 _ _ _)) | ((with_reducible refine y7 ?_ ?_; apply decide_eq_true); omega) | ((with_reducible refine y6 ?_ ?_; apply decide_eq_false); omega) | (with_reducible refine yd (by assumption) ?_))
   refine hk i hi ?_;rw[hd];unfold z23d;rw[List.dropWhile_cons,if_neg (by rw[decide_eq_true_eq];exact hlt)]
theorem forget_r(k:ArmAt h ab o nb N cells v l)(hvn:zc4 v≠[])(hne:ab≠nb)(hl:l.length<1000000)(hx:∀x∈l,x.2.2<1000000000000)(hn:1000000<n):
  ∃v' h',world n (d+2) 52 [.ptr ab o,.int .i64 (f:Int)] h=some (.ret (.tup []),h')∧ArmAt h' ab o nb N (cells.set (o+1) v') v' (z23d f l)∧zc4 v'=zc4 v∧h'.next=h.next∧Tch (ab::zc4 v) h h':=by
 obtain⟨k1,k2,k3,kv,k5,k6,k7,k8,k9,k10,k11,k12,k13,k14⟩:=id k
 have hlen:o+1<cells.length:=by
  apply Nat.lt_of_not_le;intro hh;rw[List.getElem?_eq_none hh] at kv
  cases kv
 suffices hK:Wp (world n (d+2) 52 [.ptr ab o,.int .i64 (f:Int)] h) fun r h'=>∃v',r=.ret (.tup [])∧ArmAt h' ab o nb N (cells.set (o+1) v') v' (z23d f l)∧zc4 v'=zc4 v∧h'.next=h.next∧Tch (ab::zc4 v) h h' by
  obtain⟨_,h',e,v',rfl,k⟩:=hK;exact⟨v',h',e,k⟩
 rw[z217];unfold z95;refine y17 fun k4 ek=>?_
 rcases k5 with⟨rfl,_⟩|⟨c,rest,rfl,hA,kc,hc⟩
 ·exact absurd rfl hvn
 have he:Abs.elemOf Tryd.prog z1b1=some z213:=by kernel_rfl
 have hi:(Tryd.prog.info? z213).isSome=true:=by kernel_rfl
 have hsz:Tryd.prog.cellsOf z213=2:=by kernel_rfl
 have hac:ab≠c:=fun e=>k11 (e▸List.mem_singleton.2 rfl);have cv:=y5 k1 kv;refine z2c5 k1 kv kc hl hx l 0 n rfl (Nat.zero_le _) (by omega) fun j hj ej=>?_;rw[ek,ej];have hwl:=za0 l
 -- the copy, whatever the rest is
 have fin:∀{h2:AHeap} {l2:List AV},RowH h2 c z213 l2→l2.take (2*(l.length - j))=z9c (l.drop j)→2*l.length≤l2.length→h2.next=h.next→Tch [c] h h2→Wp (callN (world n (d+1) 53 [.ptr ab o,.int .i64 ((l.length - j:Nat):Int)] h2) fun _ h_17=>some (.ret (.tup []),h_17)) fun r h'=>∃v',r=.ret (.tup [])∧ArmAt h' ab o nb N (cells.set (o+1) v') v' (l.drop j)∧zc4 v'=zc4 (.sl c 0 l.length 2)∧h'.next=h.next∧Tch (ab::zc4 (.sl c 0 l.length 2)) h h':=by
  intro h2 l2 kc2 e2 hl2 n2 t2;have ka2:=k1.tch t2 k2 (by simpa using hac);have kv2:VAt h2 (.sl c 0 l.length 2) (l2.take (2*l.length)) l.length:=.inr ⟨c,l2.drop (2*l.length),rfl,by rw[List.length_take];omega,by rw[List.take_append_drop];exact kc2,by omega⟩;obtain⟨v',h3,e3,q1,q2,q3,q4,q5⟩:=z268 (n:=n) (d:=d) (live:=l.length - j) ka2 kv (by omega) kv2 (by omega) k11;refine Wp.callN e3 ?_;rw[List.take_take,Nat.min_eq_left (by omega),e2] at q2;have tt:Tch (ab::zc4 (.sl c 0 l.length 2)) h h3:=(t2.mono fun b hb=>.inl (List.mem_cons_of_mem _ hb)).trans q5;have hdl:(l.drop j).length=l.length - j:=List.length_drop
  have hsub:∀b∈(l.drop j).map (·.1),b∈l.map (·.1):=fun b hb=>by
   obtain⟨x,hx,e⟩:=List.mem_map.1 hb;exact List.mem_map.2 ⟨x,List.mem_of_mem_drop hx,e⟩
  have nS:∀b∈l.map (·.1),b ∉ ab::zc4 (.sl c 0 l.length 2):=fun b hb hm=>by
   rcases List.mem_cons.1 hm with hm|hm
   ·exact k12 (hm▸hb)
   ·exact k10 b hm hb
  refine Wp.ret ⟨v',rfl,⟨q1,by omega,?_,List.getElem?_set_self hlen,by rw[hdl];exact q2,?_,?_,by omega,?_,fun b hb hm=>?_,?_,fun hb=>k12 (hsub _ hb),?_,fun hb=>k14 (hsub _ hb)⟩,q3,q4.trans n2,tt⟩
  ·rw [List.getElem?_set_ne (by omega)]
   exact k3
  ·exact RunsAt.tch (fun x hx=>k6 x (List.mem_of_mem_drop hx)) tt fun x hx=>nS _ (hsub _ (List.mem_map_of_mem hx))
  ·refine k7.tch tt k8 fun hm => ?_
   rcases List.mem_cons.1 hm with hm|hm
   ·exact hne hm.symm
   ·exact k13 hm
  ·exact k9.sublist ((List.drop_sublist j l).map _)
  ·rw [q3] at hb
   exact k10 b hb (hsub _ hm)
  ·rw [q3]
   exact k11
  ·rw [q3]
   exact k13
 have e1:((z9c l++rest).drop (j*2)).take ((l.length - j)*2)=z9c (l.drop j):=by
  rw[List.drop_append_of_le_length (by omega),show j*2=2*j from Nat.mul_comm _ _,z2f2];exact List.take_left' (by rw[za0,List.length_drop];omega)
 by_cases hje:j=l.length∧0<j
 ·obtain ⟨rfl, h0⟩ := hje
  have s1:=z366 (P:=Tryd.prog) (h:=h) (b:=c) (o:=0) (k1:=.i64) he hi hsz h0;obtain⟨h2,c2,q1,q2,q3⟩:=copy_none (m:=l.length) he hi hsz kc;refine Wp.obind (z11 _ _) (Wp.obind (z9 _ _ _) (Wp.obind cv (Wp.obind (z11 _ _) (Wp.obind (z9 _ _ _) (Wp.obind cv (Wp.outK s1 (Wp.outK c2 (Wp.obind (z5 _ _) ?_))))))))
  have:=fin q1 (by
   rw[Nat.sub_self,List.drop_length];rfl) (by
   show _≤(laid _ 0 []).length;rw[z11f (by simp),List.length_append];omega) q2 q3
  rw[Nat.sub_self] at this;exact this
 ·have s1 := z24d (P := Tryd.prog) (h := h) (b := c) (o := 0) (m := l.length) (l1 := j) (k1 := .i64) he hi hsz hj hje
  obtain⟨h2,c2,q1,q2,q3⟩:=z3a2 (m:=l.length) (j:=j) he hi hsz kc (by rw[List.length_append];omega) hj (by rw[e1];exact z35b _);refine Wp.obind (z11 _ _) (Wp.obind (z9 _ _ _) (Wp.obind cv (Wp.obind (z11 _ _) (Wp.obind (z9 _ _ _) (Wp.obind cv (Wp.outK s1 (Wp.outK c2 (Wp.obind (z5 _ _) ?_))))))));rw[e1] at q1;have hdl:(z9c (l.drop j)).length=2*(l.length - j):=by rw[za0,List.length_drop]
  refine fin q1 ?_ ?_ q2 q3
  ·unfold laid
   rw[List.take_zero,List.nil_append];exact List.take_left' hdl
  ·rw [z11f (by rw [List.length_append]; omega), List.length_append]
   omega
end
abbrev TMat:Nat:=78
def z3df(f:Nat)(a:z357):z357:=(a.1,a.2.dropWhile fun x=>decide (x.2<f))
def z314(a:z357):z357:=(a.1,[])
theorem dropW_W(f:Nat):∀l:List z1a3,(z23d f l).map (·.2)=(l.map (·.2)).dropWhile fun x=>decide (x.2<f)
 |[]=>rfl
 |x::l=>by
  unfold z23d;rw[List.map_cons,List.dropWhile_cons,List.dropWhile_cons]
  by_cases h:x.2.2<f
  ·rw [if_pos (decide_eq_true h), if_pos (decide_eq_true h)]
   exact dropW_W f l
  ·rw[if_neg (by rw[decide_eq_true_eq];exact h),if_neg (by rw[decide_eq_true_eq];exact h),List.map_cons]
def Sub1(H H':AHeap)(ab:Nat)(R R':List ArmT)(F:z357→z357)(P:List ArmT):Prop:=Tch (ab::z5a (P++R)) H H'∧H'.next=H.next∧ArmsAt H' ab (P++R')∧R'.map z116=(R.map z116).map F∧R'.map (·.nb)=R.map (·.nb)∧(∀b∈z5a (P++R'),b∈z5a (P++R))∧(∀B,z2ed B R→z2ed B R')∧R'.map (fun a=>zc4 a.v)=R.map (fun a=>zc4 a.v)
section
variable {H H1 H':AHeap}{ab:Nat}{P R R':List ArmT}{a:ArmT}{v':AV}{l':List z1a3}{F:z357→z357}
theorem Sub1.nil(k:ArmsAt H ab (P++[])):Sub1 H H ab [] [] F P:=⟨Tch.refl _ _,rfl,k,rfl,rfl,fun _ h=>h,fun _ h=>h,rfl⟩
theorem z3cd(k:ArmsAt H ab (P++a::R))(k1:ArmAt H1 ab (0+P.length*2) a.nb a.N ((z113 (P++a::R)).set (0+P.length*2+1) v') v' l')(hb:zc4 v'=zc4 a.v)(hl:∀x∈l',x∈a.l)(t:Tch (ab::zc4 a.v) H H1):ArmsAt H1 ab (P++{a with v:=v',l:=l'}::R)∧(∀b∈z5a (P++{a with v:=v',l:=l'}::R),b∈z5a (P++a::R))∧Tch (ab::z5a (P++a::R)) H H1:=by
 have hs:∀b∈l'.map (·.1),b∈a.l.map (·.1):=fun b hb=>by
  obtain⟨x,hx,e⟩:=List.mem_map.1 hb;exact List.mem_map.2 ⟨x,hl x hx,e⟩
 refine⟨k.step k1 (fun b h=>.inl (hb▸h)) (fun b h=>.inl (hs b h)) (t.mono fun b hb=>.inl ?_),fun b h=>?_,t.mono fun b hb=>.inl ?_⟩
 ·rcases List.mem_cons.1 hb with hb | hb
  ·rw [hb]
   exact List.mem_cons_self
  ·exact List.mem_cons_of_mem _ (List.mem_append_left _ hb)
 ·obtain ⟨y, hy, h⟩ := z6c.1 h
  rcases List.mem_append.1 hy with hy|hy
  ·exact z6c.2 ⟨y,List.mem_append_left _ hy,h⟩
  rcases List.mem_cons.1 hy with rfl|hy
  ·refine z6c.2 ⟨a, by simp, ?_⟩
   rcases List.mem_append.1 h with h|h
   ·exact List.mem_append_left _ (hb▸h)
   ·exact List.mem_append_right _ (hs b h)
  ·exact z6c.2 ⟨y,by simp[hy],h⟩
 ·rcases List.mem_cons.1 hb with hb | hb
  ·rw [hb]
   exact List.mem_cons_self
  ·exact List.mem_cons_of_mem _ (z6c.2 ⟨a,by simp,List.mem_append_left _ hb⟩)
theorem Sub1.cons(k:ArmsAt H ab (P++a::R))(k1:ArmAt H1 ab (0+P.length*2) a.nb a.N ((z113 (P++a::R)).set (0+P.length*2+1) v') v' l')(hb:zc4 v'=zc4 a.v)(hl:∀x∈l',x∈a.l)(hll:l'.length≤a.l.length)(hF:(a.N,l'.map (·.2))=F (z116 a))(t:Tch (ab::zc4 a.v) H H1)(hn:H1.next=H.next)(S:Sub1 H1 H' ab R R' F (P++[{a with v:=v',l:=l'}])):
  Sub1 H H' ab (a::R) ({a with v:=v',l:=l'}::R') F P:=by
 obtain⟨_,q2,q3⟩:=z3cd k k1 hb hl t;obtain⟨s1,s2,s3,s4,s5,s6,s7,s8⟩:=S;have re:∀X:List ArmT,(P++[{a with v:=v',l:=l'}])++X=P++{a with v:=v',l:=l'}::X:=fun X=>by simp
 rw[re] at s1 s3 s6;rw[re] at s6;refine⟨q3.trans (s1.mono fun b hb=>.inl ?_),s2.trans hn,s3,?_,?_,fun b hb=>q2 b (s6 b hb),fun B hB y hy=>?_,?_⟩
 ·rcases List.mem_cons.1 hb with hb | hb
  ·rw [hb]
   exact List.mem_cons_self
  ·exact List.mem_cons_of_mem _ (q2 b hb)
 ·rw [List.map_cons, List.map_cons, List.map_cons, s4, ← hF]
  rfl
 ·rw[List.map_cons,List.map_cons,s5]
 ·rcases List.mem_cons.1 hy with rfl | hy
  ·have := hB a List.mem_cons_self
   exact⟨Nat.le_trans hll this.1,fun x hx=>this.2 x (hl x hx)⟩
  ·exact s7 B (fun y hy=>hB y (List.mem_cons_of_mem _ hy)) y hy
 ·rw [List.map_cons, List.map_cons, s8]
  show zc4 v'::_=_;rw[hb]
end
section
variable {n d mb ab L f:Nat}{Q:ARes→AHeap→Prop}{k:AHeap→R}{bv:AV}
theorem z38a(hn:1000000<n)(hL:L<1000):
  ∀(R P:List ArmT) (fu:Nat) (H:AHeap),R.length<fu→P.length+R.length=L→ArmsAt H ab (P++R)→RowH H mb TMat [.sl ab 0 L 2,bv,.int .i64 (f:Int)]→mb<H.next→mb ∉ ab::z5a (P++R)→z2ed 90001 R→(∀a∈R,zc4 a.v≠[])→
   (∀(H':AHeap) (R':List ArmT),Sub1 H H' ab R R' (z3df f) P→Wp (k H') Q)→Wp (z6d (world n (d+2)) (.ptr mb 0) (L:Int) k fu (P.length:Int) H) Q
 |_,_,0,_,hf,_,_,_,_,_,_,_,_=>by omega
 |[],P,fu+1,H,hf,hPL,ka,km,hm,hmd,hB,hne,hk=>by
  have hPl:P.length=L:=hPL;rw[zb1];unfold z61
  ((with_reducible refine Wp.lett ?_))
  refine y6 (by rw[decide_eq_false_iff_not];omega) ?_;exact hk H [] (Sub1.nil ka)
 |a::R,P,fu+1,H,hf,hPL,ka,km,hm,hmd,hB,hne,hk=>by
  rw[List.length_cons] at hf hPL;have hPl:P.length<L:=by omega
  have hBa:=hB a List.mem_cons_self;obtain⟨k1,hab⟩:=ka.at;have c0:=y5 km (show ([.sl ab 0 L 2,bv,.int .i64 (f:Int)]:List AV)[0]? =some (.sl ab 0 L 2) from rfl);have c2:=y5 km (show ([.sl ab 0 L 2,bv,.int .i64 (f:Int)]:List AV)[2]? =some (.int .i64 (f:Int)) from rfl)
  obtain⟨v',H1,e1,q1,q2,q3,q4⟩:=forget_r (n:=n) (d:=d) (f:=f) k1 (hne a List.mem_cons_self) hab (by omega) (fun x hx=>by
   have:=hBa.2 x hx;omega) hn
  have hds:∀x∈z23d f a.l,x∈a.l:=fun x hx=>by
   obtain⟨j,_,e⟩:=z349 f a.l;rw[e] at hx;exact List.mem_of_mem_drop hx
  have hdl:(z23d f a.l).length≤a.l.length:=by
   obtain⟨j,_,e⟩:=z349 f a.l;rw[e,List.length_drop];omega
  obtain⟨o1,o2,o3⟩:=z3cd ka q1 q2 hds q4;have el:(P.length:Int)+1=((P.length+1:Nat):Int):=by omega
  have i1:=z262 (b:=ab) hPl;rw[zb1];unfold z61
  ((with_reducible refine Wp.lett ?_))
  refine y7 (by rw[decide_eq_true_eq];omega) ?_;refine Wp.obind (z11 _ _) (Wp.obind (z9 _ _ _) (Wp.obind c0 (Wp.obind i1 (Wp.obind (z11 _ _) (Wp.obind (z9 _ _ _) (Wp.obind c2 (Wp.obind (z5 _ _) (Wp.callN e1 ?_))))))))
  (((with_reducible refine ye ?_ ?_ ?_);omega;omega))
  rw[el];have re:∀X:List ArmT,(P++[{a with v:=v',l:=z23d f a.l}])++X=P++{a with v:=v',l:=z23d f a.l}::X:=fun X=>by simp
  have hP1:(P++[{a with v:=v',l:=z23d f a.l}]).length=P.length+1:=by rw[List.length_append,List.length_singleton]
  rw[←hP1];refine z38a hn hL R _ fu H1 (by omega) (by omega) (by rw[re];exact o1) (km.tch o3 hm hmd) (by omega) (fun hb=>hmd ?_) (fun y hy=>hB y (List.mem_cons_of_mem _ hy)) (fun y hy=>hne y (List.mem_cons_of_mem _ hy)) fun H' R' s=>hk H' _ (Sub1.cons ka q1 q2 hds hdl ?_ q4 q3 s)
  ·rw [re] at hb
   rcases List.mem_cons.1 hb with hb|hb
   ·rw [hb]
    exact List.mem_cons_self
   ·exact List.mem_cons_of_mem _ (o2 _ hb)
  ·rw [dropW_W]
   rfl
theorem z313(hL:L<1000):
  ∀(R P:List ArmT) (fu:Nat) (H:AHeap),R.length<fu→P.length+R.length=L→ArmsAt H ab (P++R)→RowH H mb TMat [.sl ab 0 L 2,bv,.int .i64 (f:Int)]→mb<H.next→mb ∉ ab::z5a (P++R)→
   (∀(H':AHeap) (R':List ArmT),Sub1 H H' ab R R' z314 P→Wp (k H') Q)→Wp (z62 (world n (d+1)) (.ptr mb 0) (L:Int) k fu (P.length:Int) H) Q
 |_,_,0,_,hf,_,_,_,_,_,_=>by omega
 |[],P,fu+1,H,hf,hPL,ka,km,hm,hmd,hk=>by
  have hPl:P.length=L:=hPL;rw[za7];unfold z59
  ((with_reducible refine Wp.lett ?_))
  refine y6 (by rw[decide_eq_false_iff_not];omega) ?_;exact hk H [] (Sub1.nil ka)
 |a::R,P,fu+1,H,hf,hPL,ka,km,hm,hmd,hk=>by
  rw[List.length_cons] at hf hPL;have hPl:P.length<L:=by omega
  obtain⟨k1,hab⟩:=ka.at;obtain⟨p1,p2,p3,p4,p5,p6,p7,p8,p9,p10,p11,p12,p13,p14⟩:=id k1
  have hlen:0+P.length*2+1<(z113 (P++a::R)).length:=by
   rw[z244,List.length_append,List.length_cons];omega
  have c0:=y5 km (show ([.sl ab 0 L 2,bv,.int .i64 (f:Int)]:List AV)[0]? =some (.sl ab 0 L 2) from rfl);obtain⟨v',H1,e1,q0,q1,q2,q3,q4⟩:=z268 (n:=n) (d:=d) (live:=0) p1 p4 p2 p5 (Nat.zero_le _) p11
  have q:ArmAt H1 ab (0+P.length*2) a.nb a.N ((z113 (P++a::R)).set (0+P.length*2+1) v') v' []:=by
   refine⟨q0,by omega,?_,List.getElem?_set_self hlen,q1,(fun _ h=>nomatch h),p7.tch q4 p8 fun hb=>?_,by omega,.nil,(fun _ _ h=>nomatch h),(by rw[q2];exact p11),(fun h=>nomatch h),(by rw[q2];exact p13),(fun h=>nomatch h)⟩
   ·rw [List.getElem?_set_ne (by omega)]
    exact p3
   ·rcases List.mem_cons.1 hb with hb | hb
    ·exact hab hb.symm
    ·exact p13 hb
  obtain⟨o1,o2,o3⟩:=z3cd ka q q2 (fun _ h=>nomatch h) q4;have el:(P.length:Int)+1=((P.length+1:Nat):Int):=by omega
  have i1:=z262 (b:=ab) hPl;rw[za7];unfold z59
  ((with_reducible refine Wp.lett ?_))
  refine y7 (by rw[decide_eq_true_eq];omega) ?_;refine Wp.obind (z11 _ _) (Wp.obind (z9 _ _ _) (Wp.obind c0 (Wp.obind i1 (Wp.callN e1 ?_))))
  (((with_reducible refine ye ?_ ?_ ?_);omega;omega))
  rw[el];have re:∀X:List ArmT,(P++[{a with v:=v',l:=[]}])++X=P++{a with v:=v',l:=[]}::X:=fun X=>by simp
  have hP1:(P++[{a with v:=v',l:=[]}]).length=P.length+1:=by rw[List.length_append,List.length_singleton]
  rw[←hP1];refine z313 hL R _ fu H1 (by omega) (by omega) (by rw[re];exact o1) (km.tch o3 hm hmd) (by omega) (fun hb=>hmd ?_) fun H' R' s=>hk H' _ (Sub1.cons ka q q2 (fun _ h=>nomatch h) (Nat.zero_le _) rfl q4 q3 s);rw[re] at hb
  rcases List.mem_cons.1 hb with hb|hb
  ·rw [hb]
   exact List.mem_cons_self
  ·exact List.mem_cons_of_mem _ (o2 _ hb)
end
noncomputable def z46d(ab L:Nat)(bv:AV)(g:Nat):List AV:=[.sl ab 0 L 2,bv,.int .i64 (g:Int)]
structure MatAt (h:AHeap) (mb ab:Nat) (az:List ArmT) (bv:AV) (u:Bytes) (g:Nat):Prop where
 row:RowH h mb TMat (z46d ab az.length bv g)
 hmb:mb<h.next
 arms:ArmsAt h ab az
 buf:BufAt h bv u
 m1:mb ∉ ab::z5a az
 m3:∀a∈az,a.nb≠mb
 b1:∀b∈zc4 bv,b≠mb∧b ∉ ab::z5a az∧∀a∈az,a.nb≠b
 len:az.length<1000
def z1ec(mb ab:Nat)(az:List ArmT)(bv:AV):List Nat:=mb::(zc4 bv++(ab::z5a az))
section
variable {h h':AHeap}{mb ab:Nat}{az:List ArmT}{bv:AV}{u:Bytes}{g:Nat}
theorem MatAt.lt(k:MatAt h mb ab az bv u g):∀b∈z1ec mb ab az bv,b<h.next:=by
 intro b hb
 rcases List.mem_cons.1 hb with hb|hb
 ·rw [hb]
  exact k.hmb
 rcases List.mem_append.1 hb with hb|hb
 ·exact k.buf.lt b hb
 rcases List.mem_cons.1 hb with hb|hb
 ·rw [hb]
  exact k.arms.hab
 ·exact k.arms.lt b hb
theorem MatAt.tch{S:List Nat}(k:MatAt h mb ab az bv u g)(t:Tch S h h')(hS:∀b∈z1ec mb ab az bv,b ∉ S)(hn:∀a∈az,a.nb ∉ S):MatAt h' mb ab az bv u g:=by
 obtain⟨k1,k2,k3,k4,k5,k6,k7,k8⟩:=k;refine⟨k1.tch t k2 (hS mb List.mem_cons_self),Nat.lt_of_lt_of_le k2 t.1,k3.tch t (hS ab ?_) hn (fun b hb=>hS b ?_),k4.tch t (fun b hb=>hS b ?_),k5,k6,k7,k8⟩
 ·exact List.mem_cons_of_mem _ (List.mem_append_right _ List.mem_cons_self)
 ·exact List.mem_cons_of_mem _ (List.mem_append_right _ (List.mem_cons_of_mem _ hb))
 ·exact List.mem_cons_of_mem _ (List.mem_append_left _ hb)
theorem armB{b:Nat}(hb:b∈ab::z5a az):b∈z1ec mb ab az bv:=List.mem_cons_of_mem _ (List.mem_append_right _ hb)
theorem bufB{b:Nat}(hb:b∈zc4 bv):b∈z1ec mb ab az bv:=List.mem_cons_of_mem _ (List.mem_append_left _ hb)
theorem matB{b:Nat}(hb:b∈[mb]):b∈z1ec mb ab az bv:=by rw[List.mem_singleton.1 hb];exact List.mem_cons_self
end
theorem idx_sl1{b m i:Nat}(h:i<m):z194 1 (.sl b 0 m 1) (i:Int)=some (.ptr b (0+i*1)):=by
 have e:Nat.blt i m=true:=by simpa using h
 show (match Nat.blt i m with|true=>some (AV.ptr b (0+i*1))|false=>none)=_;rw[e]
theorem buf_shift{u:Bytes}{rest:List AV}{m c0:Nat}(hu:u.length=m+1)(hc0:c0<256):(laid (z64 u++rest) 0 (z64 (u.drop 1))).set (0+m*1) (.int .u8 (c0:Int))=z64 (u.drop 1++[UInt8.ofNat c0])++rest:=by
 have h1:(z64 (u.drop 1)).length=m:=by rw[zb5,List.length_drop];omega
 have h2:(z64 u).length=m+1:=by rw[zb5,hu]
 unfold laid;rw[List.take_zero,List.nil_append,h1,Nat.zero_add,Nat.zero_add,Nat.mul_one,List.drop_append_of_le_length (by omega),List.set_append_right _ _ (by omega),h1,Nat.sub_self]
 obtain⟨x,hx⟩:∃x,(z64 u).drop m=[x]:=by
  have:=List.drop_eq_getElem_cons (l:=z64 u) (i:=m) (by omega);have e0:(z64 u).drop (m+1)=[]:=List.drop_of_length_le (by omega);rw[e0] at this;exact⟨_,this⟩
 rw[hx,z240];show z64 (u.drop 1)++(AV.int .u8 (c0:Int)::rest)=z64 (u.drop 1)++[AV.int .u8 ((UInt8.ofNat c0).toNat:Int)]++rest;rw[UInt8.toNat_ofNat_of_lt' hc0,List.append_assoc];rfl
def z20c(u:Bytes)(c:UInt8):Bytes:=if u.length<256 then u++[c] else u.drop 1++[c]
def z12e(u:Bytes)(g:Nat):Nat:=if u.length<256 then g else g+1
def z44c(u:Bytes)(g:Nat)(A:List z357):List z357:=if u.length<256 then A else A.map (z3df (g+1))
section
variable {n d mb ab g byte:Nat}{h:AHeap}{az:List ArmT}{bv:AV}{u:Bytes}
theorem keep_r(hn:1000000<n)(hby:byte<256)(k:MatAt h mb ab az bv u g)(hu:u.length≤256)(hlive:u.length=256→∀a∈az,zc4 a.v≠[])(hB:z2ed 90001 az)(hg:g+u.length<90000)(hx:h.ex=[]):
  ∃h' az' bv',world n (d+3) 34 [.ptr mb 0,.int .u8 (byte:Int)] h=some (.ret (.tup []),h')∧MatAt h' mb ab az' bv' (z20c u (UInt8.ofNat byte)) (z12e u g)∧az'.map z116=z44c u g (az.map z116)∧az'.map (·.nb)=az.map (·.nb)∧(∀b∈z1ec mb ab az' bv',b∈z1ec mb ab az bv∨h.next≤b)∧Tch (z1ec mb ab az bv) h h'∧∀B,z2ed B az→z2ed B az':=by
 suffices hK:Wp (world n (d+3) 34 [.ptr mb 0,.int .u8 (byte:Int)] h) fun r h'=>∃az' bv',r=.ret (.tup [])∧MatAt h' mb ab az' bv' (z20c u (UInt8.ofNat byte)) (z12e u g)∧az'.map z116=z44c u g (az.map z116)∧az'.map (·.nb)=az.map (·.nb)∧(∀b∈z1ec mb ab az' bv',b∈z1ec mb ab az bv∨h.next≤b)∧Tch (z1ec mb ab az bv) h h'∧∀B,z2ed B az→z2ed B az' by
  obtain⟨_,h',e,az',bv',rfl,k⟩:=hK;exact⟨h',az',bv',e,k⟩
 obtain⟨k1,k2,k3,k4,k5,k6,k7,k8⟩:=id k;rw[z1e4];unfold z75;have c1:=y5 k1 (show (z46d ab az.length bv g)[1]? =some bv from rfl);refine Wp.obind (z11 _ _) (Wp.obind (z9 _ _ _) (Wp.obind c1 (Wp.obind k4.len ?_)))
 ((with_reducible refine Wp.lett ?_))
 by_cases h256:u.length<256
 ·refine y7 (by rw [decide_eq_true_eq]; omega) ?_
  refine Wp.obind (z11 _ _) (Wp.obind (z9 _ _ _) (Wp.obind c1 ?_));refine y2d (Mem.nil [] h) (bldSlBy _ _) rfl (by rw[hx];rfl) fun h2 M2=>?_;have t2:=M2.tch;obtain⟨h3,e3,kb3,hlt3,t3⟩:=(k4.tch t2 (fun _ _=>by simp)).push M2.at0.1 hby (by omega) (by rw[t2.2.1,hx]);refine Wp.outK e3 ?_;refine Wp.obind (z11 _ _) (Wp.obind (z9 _ _ _) ?_);show Wp (Abs.obind (z16 h3 1 [AV.sl h2.next 0 (u.length+1) 1] (.ptr mb (0+1))) _) _;have n2:=t2.1;have hmbS:mb ∉ zc4 bv:=fun hb=>(k7 mb hb).1 rfl;have t03:Tch (zc4 bv) h h3:=(t2.mono fun b hb=>nomatch hb).trans t3;refine Wp.st1 (k1.tch t03 k2 hmbS) (show 0+1<3 by decide) rfl fun h4 k4' t4 n4=>?_;have hlt:=k.lt;have t04:Tch (mb::zc4 bv) h h4:=(t03.mono fun b hb=>.inl (List.mem_cons_of_mem _ hb)).trans (t4.mono fun b hb=>.inl (by rw[List.mem_singleton.1 hb];exact List.mem_cons_self))
  have arms4:ArmsAt h4 ab az:=k3.tch t04 (fun hb=>by
   rcases List.mem_cons.1 hb with hb|hb
   ·exact k5 (hb▸List.mem_cons_self)
   ·exact(k7 _ hb).2.1 List.mem_cons_self) (fun a ha hb=>by
   rcases List.mem_cons.1 hb with hb|hb
   ·exact k6 a ha hb
   ·exact(k7 _ hb).2.2 a ha rfl) (fun b hb' hb=>by
   rcases List.mem_cons.1 hb with hb|hb
   ·exact k5 (hb▸List.mem_cons_of_mem _ hb')
   ·exact(k7 _ hb).2.1 (List.mem_cons_of_mem _ hb'))
  have hab:=k3.hab;have e1:z20c u (UInt8.ofNat byte)=u++[UInt8.ofNat byte]:=if_pos h256;have e2:z12e u g=g:=if_pos h256;have e3:z44c u g (az.map z116)=az.map z116:=if_pos h256;rw[e1,e2,e3];refine Wp.ret ⟨az,.sl h2.next 0 (u.length+1) 1,rfl,⟨k4',by omega,arms4,kb3.tch t4 (fun b hb hm=>?_),k5,k6,fun b hb=>?_,k8⟩,rfl,rfl,fun b hb=>?_,t04.mono fun b hb=>.inl ?_,fun _ h=>h⟩
  ·have h1 := List.mem_singleton.1 hb
   have h2:=List.mem_singleton.1 hm;omega
  ·have hb := List.mem_singleton.1 hb
   subst hb;refine⟨by omega,fun hm=>?_,fun a ha e=>?_⟩
   ·have := hlt _ (armB (mb := mb) (bv := bv) hm)
    omega
   ·have := (k3.net a ha).2.2
    omega
  ·rcases List.mem_cons.1 hb with hb | hb
   ·exact .inl (by rw[hb];exact List.mem_cons_self)
   rcases List.mem_append.1 hb with hb|hb
   ·right
    rw[List.mem_singleton.1 hb];exact n2
   ·exact .inl (armB hb)
  ·rcases List.mem_cons.1 hb with hb | hb
   ·rw [hb]
    exact List.mem_cons_self
   ·exact bufB hb
 ·have hul : u.length = 255 + 1 := by omega
  refine y6 (by rw[decide_eq_false_iff_not];omega) ?_
  rcases k4 with⟨rfl,rfl⟩|⟨c,rest,rfl,kc,hc⟩
  ·cases hul
  obtain⟨b1,b2,b3⟩:=k7 c (List.mem_singleton.2 rfl);have he:Abs.elemOf Tryd.prog TBy=some 5:=by kernel_rfl
  have hi:(Tryd.prog.info? 5).isSome=true:=by kernel_rfl
  have hsz:Tryd.prog.cellsOf 5=1:=by kernel_rfl
  have hbl:=zb5 u;have s1:=z24d (P:=Tryd.prog) (h:=h) (b:=c) (o:=0) (m:=u.length) (l1:=1) (k1:=.i64) he hi hsz (by omega) (by omega)
  have ecp:((z64 u++rest).drop (1*1)).take ((u.length - 1)*1)=z64 (u.drop 1):=by
   rw[List.drop_append_of_le_length (by omega),Nat.mul_one,z3f0];exact List.take_left' (by rw[zb5,List.length_drop,Nat.mul_one])
  obtain⟨h2,e2,q2,n2,t2⟩:=z3a2 (m:=u.length) (j:=1) he hi hsz kc (by rw[List.length_append];omega) (by omega) (by rw[ecp];exact z461 _);rw[ecp] at q2;have hmc:mb≠c:=fun e=>b1 e.symm;have row2:=k1.tch t2 k2 (by simpa using hmc);have d1:=y5 row2 (show (z46d ab az.length (.sl c 0 u.length 1) g)[1]? =some (.sl c 0 u.length 1) from rfl);refine Wp.obind (z11 _ _) (Wp.obind (z9 _ _ _) (Wp.obind c1 (Wp.obind (z11 _ _) (Wp.obind (z9 _ _ _) (Wp.obind c1 (Wp.outK s1 (Wp.outK e2 (Wp.obind (z5 _ _) ?_))))))));refine Wp.obind (z11 _ _) (Wp.obind (z9 _ _ _) (Wp.obind d1 (Wp.obind (z11 _ _) (Wp.obind (z9 _ _ _) (Wp.obind d1 (Wp.obind (show z160 (.sl c 0 u.length 1)=some (u.length:Int) from rfl) ?_))))))
  (((with_reducible refine ye ?_ ?_ ?_);omega;omega))
  have i1:=idx_sl1 (b:=c) (m:=u.length) (i:=255) (by omega);rw[show ((255:Nat):Int)=(u.length:Int) - 1 by omega] at i1;refine Wp.obind i1 ?_
  have hll:255<(laid (z64 u++rest) 0 (z64 (u.drop 1))).length:=by
   rw[z11f (by rw[zb5,List.length_drop,List.length_append];omega),List.length_append];omega
  refine Wp.st1 q2 (by omega) rfl fun h3 q3 t3 n3=>?_;rw[buf_shift hul hby] at q3;have row3:=row2.tch t3 (by omega) (by simpa using hmc);have d2:=y5 row3 (show (z46d ab az.length (.sl c 0 u.length 1) g)[2]? =some (.int .i64 (g:Int)) from rfl);refine Wp.obind (z11 _ _) (Wp.obind (z9 _ _ _) (Wp.obind d2 (Wp.obind (z5 _ _) ?_)))
  (((with_reducible refine ye ?_ ?_ ?_);omega;omega))
  refine Wp.obind (z11 _ _) (Wp.obind (z9 _ _ _) ?_);refine Wp.st1 row3 (show 0+2<3 by decide) rfl fun h4 row4 t4 n4=>?_;have eg:(g:Int)+1=((g+1:Nat):Int):=by omega
  rw[eg] at row4;have row4':RowH h4 mb TMat [.sl ab 0 az.length 2,.sl c 0 u.length 1,.int .i64 ((g+1:Nat):Int)]:=row4;have d3:=y5 row4' (show ([.sl ab 0 az.length 2,.sl c 0 u.length 1,.int .i64 ((g+1:Nat):Int)]:List AV)[0]? =some (.sl ab 0 az.length 2) from rfl);refine Wp.obind (z11 _ _) (Wp.obind (z9 _ _ _) (Wp.obind d3 (Wp.obind (show z160 (.sl ab 0 az.length 2)=some (az.length:Int) from rfl) ?_)));refine y17 fun k60 ek=>?_;have t23:Tch [c] h h3:=t2.trans t3;have t04:Tch [mb,c] h h4:=(t23.mono fun b hb=>.inl (by rw[List.mem_singleton.1 hb];simp)).trans (t4.mono fun b hb=>.inl (by rw[List.mem_singleton.1 hb];simp))
  have two:∀{b},b∈[mb,c]→b=mb∨b=c:=fun hb=>by
   rcases List.mem_cons.1 hb with hb|hb
   ·exact .inl hb
   ·exact .inr (List.mem_singleton.1 hb)
  have arms4:ArmsAt h4 ab az:=k3.tch t04 (fun hb=>by
   rcases two hb with hb|hb
   ·exact k5 (hb▸List.mem_cons_self)
   ·exact b2 (hb▸List.mem_cons_self)) (fun a ha hb=>by
   rcases two hb with hb|hb
   ·exact k6 a ha hb
   ·exact b3 a ha hb) (fun b hb' hb=>by
   rcases two hb with hb|hb
   ·exact k5 (hb▸List.mem_cons_of_mem _ hb')
   ·exact b2 (hb▸List.mem_cons_of_mem _ hb'))
  refine z38a (n:=n) (d:=d) (L:=az.length) (f:=g+1) hn k8 az [] n h4 (by omega) (by simp) arms4 row4' (by omega) k5 hB (hlive (by omega)) fun H' R' s=>?_;obtain⟨w1,w2,w3,w4,w5,w6,w7,w8⟩:=s;rw[List.nil_append] at w1 w3 w6;rw[List.nil_append] at w6;rw[ek]
  have hlR:R'.length=az.length:=by
   have:=congrArg List.length w5;rw[List.length_map,List.length_map] at this;exact this
  have nbR:∀a∈R',∃w∈az,w.nb=a.nb:=fun a ha=>by
   have:a.nb∈R'.map (·.nb):=List.mem_map_of_mem ha;rw[w5] at this;exact List.mem_map.1 this
  have sub:∀b∈ab::z5a R',b∈ab::z5a az:=fun b hb=>by
   rcases List.mem_cons.1 hb with hb|hb
   ·rw [hb]
    exact List.mem_cons_self
   ·exact List.mem_cons_of_mem _ (w6 b hb)
  have hcl:c<h4.next:=by omega
  have kc4:=(q3.tch t4 (by omega) (by simpa using hmc.symm)).tch w1 hcl b2;have e1:z20c u (UInt8.ofNat byte)=u.drop 1++[UInt8.ofNat byte]:=if_neg h256;have e2:z12e u g=g+1:=if_neg h256;have e3:z44c u g (az.map z116)=(az.map z116).map (z3df (g+1)):=if_neg h256;have eul:(u.drop 1++[UInt8.ofNat byte]).length=u.length:=by rw[List.length_append,List.length_singleton,List.length_drop];omega
  rw[e1,e2,e3];refine Wp.ret ⟨R',.sl c 0 u.length 1,rfl,⟨?_,by omega,w3,.inr ⟨c,rest,by rw[eul],kc4,by omega⟩,fun hb=>k5 (sub _ hb),fun a ha e=>?_,fun b hb=>?_,by omega⟩,w4,w5,fun b hb=>?_,?_,w7⟩
  ·rw [hlR]
   exact row4'.tch w1 (by omega) k5
  ·obtain ⟨w, hw, e'⟩ := nbR a ha
   exact k6 w hw (e'.trans e)
  ·have hb := List.mem_singleton.1 hb
   subst hb;refine⟨b1,fun hm=>b2 (sub _ hm),fun a ha e=>?_⟩;obtain⟨w,hw,e'⟩:=nbR a ha;exact b3 w hw (e'.trans e)
  ·left
   rcases List.mem_cons.1 hb with hb|hb
   ·rw [hb]
    exact List.mem_cons_self
   rcases List.mem_append.1 hb with hb|hb
   ·exact bufB hb
   ·exact armB (sub b hb)
  ·refine (t04.mono fun b hb => .inl ?_).trans (w1.mono fun b hb => .inl (armB hb))
   rcases two hb with hb|hb
   ·rw [hb]
    exact List.mem_cons_self
   ·rw [hb]
    exact bufB (List.mem_singleton.2 rfl)
theorem empty_r(hn:1000000<n)(k:MatAt h mb ab az bv u g):
  ∃h' az' bv',world n (d+2) 35 [.ptr mb 0] h=some (.ret (.tup []),h')∧MatAt h' mb ab az' bv' [] 0∧az'.map z116=(az.map z116).map z314∧az'.map (·.nb)=az.map (·.nb)∧(∀b∈z1ec mb ab az' bv',b∈z1ec mb ab az bv)∧h'.next=h.next∧Tch (z1ec mb ab az bv) h h':=by
 suffices hK:Wp (world n (d+2) 35 [.ptr mb 0] h) fun r h'=>∃az' bv',r=.ret (.tup [])∧MatAt h' mb ab az' bv' [] 0∧az'.map z116=(az.map z116).map z314∧az'.map (·.nb)=az.map (·.nb)∧(∀b∈z1ec mb ab az' bv',b∈z1ec mb ab az bv)∧h'.next=h.next∧Tch (z1ec mb ab az bv) h h' by
  obtain⟨_,h',e,az',bv',rfl,k⟩:=hK;exact⟨h',az',bv',e,k⟩
 obtain⟨k1,k2,k3,k4,k5,k6,k7,k8⟩:=id k;rw[z1b4];unfold z68;have c1:=y5 k1 (show (z46d ab az.length bv g)[1]? =some bv from rfl)
 obtain⟨v8,s1,hb8,kb8,hc8⟩:∃v8,zb7 Tryd.prog h TBy bv none (some (.int .i64 ((0:Nat):Int)))=some (.val v8,h)∧zc4 v8=zc4 bv∧BufAt h v8 []∧v8.one=true∧AV.cells v8=[v8]:=by
  rcases k4 with⟨rfl,rfl⟩|⟨c,rest,rfl,kc,hc⟩
  ·exact⟨.nsl,by kernel_rfl,rfl,.inl ⟨rfl,rfl⟩,rfl,rfl⟩
  ·exact⟨.sl c 0 0 1,z3ff (P:=Tryd.prog) (e:=5) (k1:=.i64) (by kernel_rfl) (by kernel_rfl) (by kernel_rfl) (Nat.zero_le _),rfl,.inr ⟨c,z64 u++rest,rfl,kc,hc⟩,rfl,rfl⟩
 refine Wp.obind (z11 _ _) (Wp.obind (z9 _ _ _) (Wp.obind c1 (Wp.outK s1 (Wp.obind (z11 _ _) (Wp.obind (z9 _ _ _) ?_)))));rw[hc8.2];refine Wp.st1 k1 (show 0+1<3 by decide) hc8.1 fun h2 r2 t2 n2=>?_;refine Wp.obind (z11 _ _) (Wp.obind (z9 _ _ _) ?_);refine Wp.st1 r2 (show 0+2<3 by decide) rfl fun h3 r3 t3 n3=>?_;have r3':RowH h3 mb TMat [.sl ab 0 az.length 2,v8,.int .i64 ((0:Nat):Int)]:=r3;have d3:=y5 r3' (show ([.sl ab 0 az.length 2,v8,.int .i64 ((0:Nat):Int)]:List AV)[0]? =some (.sl ab 0 az.length 2) from rfl);refine Wp.obind (z11 _ _) (Wp.obind (z9 _ _ _) (Wp.obind d3 (Wp.obind (show z160 (.sl ab 0 az.length 2)=some (az.length:Int) from rfl) ?_)));refine y17 fun k22 ek=>?_;have t03:Tch [mb] h h3:=t2.trans t3;have arms3:ArmsAt h3 ab az:=k3.tch t03 (fun hb=>k5 (List.mem_singleton.1 hb▸List.mem_cons_self)) (fun a ha hb=>k6 a ha (List.mem_singleton.1 hb)) (fun b hb' hb=>k5 (List.mem_singleton.1 hb▸List.mem_cons_of_mem _ hb'));refine z313 (n:=n) (d:=d) (L:=az.length) (f:=0) k8 az [] n h3 (by omega) (by simp) arms3 r3' (by omega) k5 fun H' R' s=>?_;obtain⟨w1,w2,w3,w4,w5,w6,w7,w8⟩:=s;rw[List.nil_append] at w1 w3 w6;rw[List.nil_append] at w6;rw[ek]
 have hlR:R'.length=az.length:=by
  have:=congrArg List.length w5;rw[List.length_map,List.length_map] at this;exact this
 have nbR:∀a∈R',∃w∈az,w.nb=a.nb:=fun a ha=>by
  have:a.nb∈R'.map (·.nb):=List.mem_map_of_mem ha;rw[w5] at this;exact List.mem_map.1 this
 have sub:∀b∈ab::z5a R',b∈ab::z5a az:=fun b hb=>by
  rcases List.mem_cons.1 hb with hb|hb
  ·rw [hb]
   exact List.mem_cons_self
  ·exact List.mem_cons_of_mem _ (w6 b hb)
 have kb3:=kb8.tch t03 (fun b hb hm=>by
  rw[hb8] at hb;exact(k7 b hb).1 (List.mem_singleton.1 hm))
 refine Wp.ret ⟨R',v8,rfl,⟨?_,by omega,w3,kb3.tch w1 (fun b hb=>by rw[hb8] at hb;exact(k7 b hb).2.1),fun hb=>k5 (sub _ hb),fun a ha e=>?_,fun b hb=>?_,by omega⟩,w4,w5,fun b hb=>?_,by omega,?_⟩
 ·rw [hlR]
  exact r3'.tch w1 (by omega) k5
 ·obtain ⟨w, hw, e'⟩ := nbR a ha
  exact k6 w hw (e'.trans e)
 ·rw [hb8] at hb
  obtain⟨b1,b2,b3⟩:=k7 b hb;refine⟨b1,fun hm=>b2 (sub _ hm),fun a ha e=>?_⟩;obtain⟨w,hw,e'⟩:=nbR a ha;exact b3 w hw (e'.trans e)
 ·rcases List.mem_cons.1 hb with hb | hb
  ·rw [hb]
   exact List.mem_cons_self
  rcases List.mem_append.1 hb with hb|hb
  ·rw [hb8] at hb
   exact bufB hb
  ·exact armB (sub b hb)
 ·exact(t03.mono fun b hb=>.inl (matB hb)).trans (w1.mono fun b hb=>.inl (armB hb))
end
abbrev MS:=List z357×Bytes×Nat
def z45(m:MS)(c:UInt8):MS:=(z44c m.2.1 m.2.2 m.1,z20c m.2.1 c,z12e m.2.1 m.2.2)
def atM(m:MS):Nat:=m.2.2+m.2.1.length - 1
def zcb:MS→Bytes→Nat→Nat×Option (Nat×Int×Nat)×MS
 |m,[],i=>(i,none,m)
 |m,c::s,i=>match (z55 c.toNat (atM (z45 m c)) (z45 m c).1).1 with
  |some z=>(i+1,some (z.1,(z.2:Int) - ((z45 m c).2.2:Int),(z45 m c).2.1.length),((z55 c.toNat (atM (z45 m c)) (z45 m c).1).2.map z314,[],0))
  |none=>zcb ((z55 c.toNat (atM (z45 m c)) (z45 m c).1).2,(z45 m c).2.1,(z45 m c).2.2) s (i+1)
noncomputable def z39f:Option (Nat×Int×Nat)→List AV
 |some z=>[.int .i64 (z.1:Int),.int .i64 z.2.1,.int .i64 (z.2.2:Int)]
 |none=>[.int .i64 0,.int .i64 0,.int .i64 0]
theorem feedC_len(r:Option (Nat×Int×Nat)):(z39f r).length=3:=by cases r<;>rfl
theorem feedC_one(r:Option (Nat×Int×Nat)):(z39f r).all AV.one=true:=by cases r<;>rfl
theorem z38c{u:Bytes}{c:UInt8}(h:u.length≤256):(z20c u c).length≤256∧1≤(z20c u c).length:=by
 unfold z20c
 split<;>rw[List.length_append,List.length_singleton]
 ·omega
 ·rw [List.length_drop]
  omega
theorem z38d{m:MS}{c:UInt8}(h:m.2.1.length≤256):(z45 m c).2.2+(z45 m c).2.1.length=m.2.2+m.2.1.length+1:=by
 show z12e m.2.1 m.2.2+(z20c m.2.1 c).length=_;unfold z12e z20c
 split<;>rw[List.length_append,List.length_singleton]
 ·omega
 ·rw [List.length_drop]
  omega
theorem z4ad{N:Nt}{c B:Nat}:∀(l:List WayW) (a:Option Nat) (f:Nat),(∀x∈l,x.2<B)→(∀g,a=some g→g<B)→hitW N c a l=some f→f<B
 |[],a,f,_,ha,h=>ha f h
 |x::l,a,f,hl,ha,h=>by
  refine z4ad l (accW N c a x) f (fun y hy=>hl y (List.mem_cons_of_mem _ hy)) (fun g hg=>?_) h
  cases a with
  |some k=>exact ha g hg
  |none=>
   have hg:(if z267 N (stepN N x.1 c)=true then some x.2 else none)=some g:=hg
   split at hg
   ·cases hg
    exact hl x List.mem_cons_self
   ·cases hg
theorem z3fe{c B:Nat}:∀(A:List z357) (z:Nat×Nat),(∀a∈A,∀x∈a.2,x.2<B)→(z55 c B A).1=some z→z.2<B+1∧z.1<A.length
 |[],z,_,h=>by cases h
 |a::A,z,hA,h=>by
  rw[z55] at h
  split at h
  ·rename_i f hf
   cases h;refine⟨z4ad _ none f (fun x hx=>?_) (fun g hg=>by cases hg) hf,Nat.succ_pos _⟩
   rcases List.mem_append.1 hx with hx|hx
   ·exact Nat.lt_succ_of_lt (hA a List.mem_cons_self x hx)
   ·rw [List.mem_singleton.1 hx]
    exact Nat.lt_succ_self _
  ·cases hr : (z55 c B A).1 with
   |none=>
    have h2:Option.map _ (z55 c B A).1=some z:=h;rw[hr] at h2;cases h2
   |some w=>
    have h2:Option.map _ (z55 c B A).1=some z:=h;rw[hr] at h2;cases h2;have:=z3fe A w (fun a ha=>hA a (List.mem_cons_of_mem _ ha)) hr;exact⟨this.1,by show w.1+1<_;rw[List.length_cons];omega⟩
def MatS(h:AHeap)(mb ab:Nat)(S nbs:List Nat)(m:MS):Prop:=∃az bv,MatAt h mb ab az bv m.2.1 m.2.2∧az.map z116=m.1∧S=z1ec mb ab az bv∧nbs=az.map (·.nb)∧m.2.1.length≤256∧z2ed (m.2.2+m.2.1.length) az∧(m.2.1≠[]→∀a∈az,zc4 a.v≠[])
section
variable {h h':AHeap}{mb ab:Nat}{S nbs:List Nat}{m:MS}
theorem MatS.tch{T:List Nat}(k:MatS h mb ab S nbs m)(t:Tch T h h')(hS:∀b∈S,b ∉ T)(hn:∀b∈nbs,b ∉ T):MatS h' mb ab S nbs m:=by
 obtain⟨az,bv,k1,k2,rfl,rfl,k5⟩:=k;exact⟨az,bv,k1.tch t hS (fun a ha=>hn _ (List.mem_map_of_mem ha)),k2,rfl,rfl,k5⟩
theorem MatS.lt(k:MatS h mb ab S nbs m):∀b∈S,b<h.next:=by
 obtain⟨az,bv,k1,k2,rfl,_⟩:=k;exact k1.lt
theorem MatS.tz(k:MatS h mb ab S nbs m)(hT:HasTz h):0 ∉ S:=by
 obtain⟨az,bv,k1,k2,rfl,_⟩:=k;intro hb
 rcases List.mem_cons.1 hb with hb|hb
 ·exact z218 hT k1.row hb
 rcases List.mem_append.1 hb with hb|hb
 ·rcases k1.buf with ⟨rfl, _⟩ | ⟨c, rest, rfl, kc, _⟩
  ·exact nomatch hb
  ·exact z218 hT kc (List.mem_singleton.1 hb)
 ·exact k1.arms.tz hT hb
end
set_option maxRecDepth 100000 in
theorem z3c3{h:AHeap}{b:Nat}(k:RowH h b z3b0 [.int .i64 0,.int .i64 0,.int .i64 0]):z3c4 h b z3b0 [.int .i64 0,.int .i64 0,.int .i64 0]=true:=by
 obtain⟨t,h1,h2⟩:=k;have e0:t.get 0=some (.int .i64 0):=h2 0 (by decide);have e1:t.get 1=some (.int .i64 0):=h2 1 (by decide);have e2:t.get 2=some (.int .i64 0):=h2 2 (by decide)
 have e3:t.take 0 3=some [.int .i64 0,.int .i64 0,.int .i64 0]:=by
  simp only[T.take,e0,e1,e2]
 unfold z3c4;rw[h1];show (Nat.beq 3 3&&Nat.beq z3b0 z3b0&&z2a2 (t.take 0 3) _)=true;rw[e3];rfl
theorem eqMat(b o:Nat)(h:AHeap):zca Tryd.prog h .eql 31 true (some (.ptr b o)) (some AV.nilp)=some (.val (.bool false),h):=by kernel_rfl
theorem nilMat(h:AHeap):zca Tryd.prog h .eql 31 true (some AV.nilp) (some AV.nilp)=some (.val (.bool true),h):=by kernel_rfl
section
variable {n d mb ab:Nat}{h:AHeap}{S nbs:List Nat}{s:Bytes}{m:MS}{Q:ARes→AHeap→Prop}{k16:AHeap→R}
theorem z39d(hn:18446744073709551616<n)(hsl:s.length<80000):
  ∀(k i fu:Nat) (m:MS) (S:List Nat) (H:AHeap),k<fu→i+k=s.length→m.2.2+m.2.1.length+k<80000→MatS H mb ab S nbs m→HasTz H→H.ex=[]→RowH H h.next z3b0 [.int .i64 0,.int .i64 0,.int .i64 0]→h.next<H.next→h.next ∉ S→(∀b∈nbs,b≠h.next)→
   (∀H' S',(zcb m (s.drop i) i).2.1=none→MatS H' mb ab S' nbs (zcb m (s.drop i) i).2.2→Tch S H H'→(∀b∈S',b∈S∨H.next≤b)→(zcb m (s.drop i) i).1=s.length→Wp (k16 H') Q)→
   (∀H' S' z,(zcb m (s.drop i) i).2.1=some z→MatS H' mb ab S' nbs (zcb m (s.drop i) i).2.2→Tch (h.next::S) H H'→(∀b∈S',b∈S∨H.next≤b)→Q (.ret (.tup [.int .i64 ((zcb m (s.drop i) i).1:Int),.agg (z39f (some z)),.bool true])) H')→
   Wp (z6e (world n (d+5)) (.ptr mb 0) s h k16 fu (i:Int) H) Q
 |_,_,0,_,_,_,hf,_,_,_,_,_,_,_,_,_,_,_=>by omega
 |0,i,fu+1,m,S,H,hf,hm,hb,km,hT,hx,kh,hh,hS,hnb,hk,hq=>by
  have ll:=z77 s;rw[zb2];unfold z63
  repeat(first|(with_reducible refine Wp.lett ?_)|((with_reducible refine y6 ?_ ?_;apply decide_eq_false);omega))
  have e:s.drop i=[]:=List.drop_of_length_le (by omega);rw[e] at hk;exact hk H S rfl km (Tch.refl _ _) (fun b hb=>.inl hb) (by show i=_;omega)
 |k+1,i,fu+1,m,S,H,hf,hm,hb,km,hT,hx,kh,hh,hS,hnb,hk,hq=>by
  have ll:=z77 s;have hi:i<s.length:=by omega
  have hxs:=z290 hi;have el:(i:Int)+1=((i+1:Nat):Int):=by omega
  rw[List.drop_eq_getElem_cons hi] at hk hq
  generalize hc:s[i]=c at hk hq hxs
  have hcb:c.toNat<256:=c.toNat_lt;have hTS:=km.tz hT;obtain⟨az,bv,k1,k2,eS,eN,k5,k6,k7⟩:=km;subst eS
  obtain⟨h1,az1,bv1,e1,m1,a1,n1,s1,t1,b1⟩:=keep_r (n:=n) (d:=d+2) (by omega) hcb k1 k5 (fun e=>k7 (fun e0=>by rw[e0] at e;cases e)) (fun a ha=>by
   have:=k6 a ha;exact⟨by omega,fun x hx=>by have:=this.2 x hx;omega⟩) (by omega) hx
  rw[UInt8.ofNat_toNat] at m1;have hl1:=z38d (m:=m) (c:=c) k5;obtain⟨hu1,hu2⟩:=z38c (c:=c) k5
  have e2:z45 m c=(az1.map z116,z20c m.2.1 c,z12e m.2.1 m.2.2):=by
   show (z44c m.2.1 m.2.2 m.1,_,_)=_;rw[a1,k2]
  have hB1:z2ed (atM (z45 m c)) az1:=by
   have:atM (z45 m c)=m.2.2+m.2.1.length:=by
    unfold atM;omega
   rw[this];exact b1 _ k6
  have hat:((z12e m.2.1 m.2.2:Nat):Int)+((z20c m.2.1 c).length:Int) - 1=((atM (z45 m c):Nat):Int):=by
   unfold atM;show _=((z12e m.2.1 m.2.2+(z20c m.2.1 c).length - 1:Nat):Int);omega
  have hatl:atM (z45 m c)<80000:=by
   unfold atM;omega
  have kh1:=kh.tch t1 hh hS;have hh1:h.next<h1.next:=Nat.lt_of_lt_of_le hh t1.1;have hT1:=hT.tch t1 hTS;have hx1:h1.ex=[]:=by rw[t1.2.1,hx]
  have r1:=m1.row;have c2:=y5 r1 (show (z46d ab az1.length bv1 (z12e m.2.1 m.2.2))[2]? =some (.int .i64 ((z12e m.2.1 m.2.2:Nat):Int)) from rfl);have c1:=y5 r1 (show (z46d ab az1.length bv1 (z12e m.2.1 m.2.2))[1]? =some bv1 from rfl);have c0:=y5 r1 (show (z46d ab az1.length bv1 (z12e m.2.1 m.2.2))[0]? =some (.sl ab 0 az1.length 2) from rfl)
  have hS1:∀b∈z1ec mb ab az1 bv1,b≠h.next:=fun b hb e=>by
   rcases s1 b hb with hb|hb
   ·exact hS (e▸hb)
   ·omega
  have hnb1:∀a∈az1,a.nb≠h.next:=fun a ha=>hnb _ (by rw[eN, ←n1];exact List.mem_map_of_mem ha);rw[zb2];unfold z63
  ((with_reducible refine Wp.lett ?_))
  refine y7 (by rw[decide_eq_true_eq];omega) ?_;refine Wp.obind hxs (Wp.callN e1 (Wp.obind (z11 _ _) (Wp.obind (z9 _ _ _) (Wp.obind c2 (Wp.obind (z5 _ _) (Wp.obind (z11 _ _) (Wp.obind (z9 _ _ _) (Wp.obind c1 (Wp.obind m1.buf.len ?_)))))))))
  have hgk:z12e m.2.1 m.2.2≤m.2.2+1:=by
   unfold z12e
   split<;>omega
  (((with_reducible refine ye ?_ ?_ ?_);omega;omega))
  (((with_reducible refine ye ?_ ?_ ?_);omega;omega))
  rw[hat];refine Wp.obind (z11 _ _) (Wp.obind (z9 _ _ _) (Wp.obind c0 (Wp.obind hxs ?_)));refine y9 (Mem.nil [] h1) fun h2 M2=>?_;have t2:=M2.tch;have q2:=M2.at0.1;have hq2:=M2.at0.2.1;have arms2:=m1.arms.tch t2 (by simp) (fun _ _=>by simp) (fun _ _=>by simp);obtain⟨h3,R',e3,t3,k3,b3,a3,n3,s3,w3⟩:=z270 (n:=n) (d:=d) (byte:=c.toNat) (at_:=atM (z45 m c)) hn hcb (by omega) m1.len arms2 hB1 (hT1.tch t2 (by simp)) (by rw[t2.2.1,hx1]);refine Wp.callN e3 ?_
  have hqS:h1.next ∉ ab::z5a az1:=fun hb=>by
   have:=m1.lt _ (armB (mb:=mb) (bv:=bv1) hb);omega
  have q3:=q2.tch t3 hq2 hqS;refine Wp.chk (z26a (z3c3 q3) rfl) ?_;refine Wp.obind (zf1 _ _) (Wp.obind (z13 _) (Wp.obind (zf0 _ _ _) (Wp.obind (z6 _) ?_)));rw[z10];have hfl:∀r,(z44d 0 (atM (z45 m c)) r).length=3∧(z44d 0 (atM (z45 m c)) r).all AV.one=true:=fun r=>by cases r<;>exact⟨rfl,rfl⟩
  have hq3:h1.next<h3.next:=Nat.lt_of_lt_of_le hq2 t3.1;refine Wp.stAll q3 (hfl _).1 rfl (hfl _).2 fun h4 q4 t4 n4=>?_
  -- the matcher behind the step
  have n12:=t2.1;have n23:=t3.1;have lt1:=m1.lt
  have nbR:∀a∈R',∃w∈az1,w.nb=a.nb:=fun a ha=>by
   have:a.nb∈R'.map (·.nb):=List.mem_map_of_mem ha;rw[n3] at this;exact List.mem_map.1 this
  have hlR:R'.length=az1.length:=by
   have:=congrArg List.length n3;rw[List.length_map,List.length_map] at this;exact this
  have sub3:∀b∈ab::z5a R',b∈ab::z5a az1∨h2.next≤b:=fun b hb=>by
   rcases List.mem_cons.1 hb with hb|hb
   ·rw [hb]
    exact .inl List.mem_cons_self
   ·exact(s3 b hb).imp (fun h=>List.mem_cons_of_mem _ h) id
  have t14:Tch (ab::z5a az1) h1 h4:=((t2.mono fun b hb=>nomatch hb).trans t3).trans' t4 fun b hb=>by
   rw[List.mem_singleton.1 hb];exact .inr (Nat.le_refl _)
  have m4:MatAt h4 mb ab R' bv1 (z20c m.2.1 c) (z12e m.2.1 m.2.2):=by
   refine⟨?_,Nat.lt_of_lt_of_le m1.hmb t14.1,k3.tch t4 ?_ (fun a ha hm=>?_) (fun b hb hm=>?_),m1.buf.tch t14 (fun b hb=>(m1.b1 b hb).2.1),fun hb=>?_,fun a ha e=>?_,fun b hb=>?_,?_⟩
   ·rw [hlR]
    exact r1.tch t14 m1.hmb m1.m1
   ·intro hm
    have:=m1.arms.hab;have:=List.mem_singleton.1 hm;omega
   ·obtain ⟨w, hw, e⟩ := nbR a ha
    have:=(m1.arms.net w hw).2.2;have:=List.mem_singleton.1 hm;omega
   ·have hm := List.mem_singleton.1 hm
    rcases s3 b hb with hb|hb
    ·have := lt1 b (armB (List.mem_cons_of_mem _ hb))
     omega
    ·omega
   ·rcases sub3 _ hb with hb | hb
    ·exact m1.m1 hb
    ·have := m1.hmb
     omega
   ·obtain ⟨w, hw, e'⟩ := nbR a ha
    exact m1.m3 w hw (e'.trans e)
   ·obtain ⟨p1, p2, p3⟩ := m1.b1 b hb
    refine⟨p1,fun hm=>?_,fun a ha e=>?_⟩
    ·rcases sub3 _ hm with hm | hm
     ·exact p2 hm
     ·have := lt1 b (bufB hb)
      omega
    ·obtain ⟨w, hw, e'⟩ := nbR a ha
     exact p3 w hw (e'.trans e)
   ·rw [hlR]
    exact m1.len
  have subM:∀b∈z1ec mb ab R' bv1,b∈z1ec mb ab az1 bv1∨h1.next≤b:=fun b hb=>by
   rcases List.mem_cons.1 hb with hb|hb
   ·exact .inl (by rw[hb];exact List.mem_cons_self)
   rcases List.mem_append.1 hb with hb|hb
   ·exact .inl (bufB hb)
   ·exact(sub3 b hb).imp armB (fun h=>by omega)
  have tA:Tch (z1ec mb ab az bv) H h4:=t1.trans' t14 fun b hb=>s1 b (armB hb);have hle:H.next≤h1.next:=t1.1
  have subA:∀b∈z1ec mb ab R' bv1,b∈z1ec mb ab az bv∨H.next≤b:=fun b hb=>by
   rcases subM b hb with hb|hb
   ·exact s1 b hb
   ·exact .inr (by omega)
  have hph:h.next<h4.next:=by
   have:=t14.1;omega
  have hpS:h.next ∉ z1ec mb ab R' bv1:=fun hb=>by
   rcases subA _ hb with hb|hb
   ·exact hS hb
   ·omega
  have kh4:RowH h4 h.next z3b0 [.int .i64 0,.int .i64 0,.int .i64 0]:=kh1.tch t14 hh1 fun hb=>hS1 _ (armB hb) rfl;have hT4:HasTz h4:=hT1.tch t14 (m1.arms.tz hT1);have nbs1:nbs=R'.map (·.nb):=by rw[eN,n3,n1]
  cases hz:(z55 c.toNat (atM (z45 m c)) (az1.map z116)).1 with
  |some z=>
   rw[hz] at q4;refine y7 rfl ?_
   have hzb:=z3fe (c:=c.toNat) (B:=atM (z45 m c)) (az1.map z116) z (fun a ha x hx=>by
    obtain⟨y,hy,rfl⟩:=List.mem_map.1 ha;obtain⟨w,hw,rfl⟩:=List.mem_map.1 hx;exact(hB1 y hy).2 w hw) hz
   have r4:=m4.row;have c24:=y5 r4 (show (z46d ab R'.length bv1 (z12e m.2.1 m.2.2))[2]? =some (.int .i64 ((z12e m.2.1 m.2.2:Nat):Int)) from rfl)
   have hqm:h1.next≠mb:=by
    have:=m1.hmb;omega
   have hz2:=hzb.1;refine Wp.obind (y5 q4 (show (z44d 0 (atM (z45 m c)) (some z))[1]? =some (.int .i64 (z.2:Int)) from rfl)) ?_;refine Wp.obind (z5 _ _) (Wp.obind (z11 _ _) (Wp.obind (z9 _ _ _) (Wp.obind c24 (Wp.obind (z5 _ _) ?_))))
   (((with_reducible refine ye ?_ ?_ ?_);omega;omega))
   refine Wp.st1 q4 (show 1<3 by decide) rfl fun h5 q5 t5 n5=>?_;have r5:=r4.tch t5 m4.hmb (by simpa using hqm.symm);have c25:=y5 r5 (show (z46d ab R'.length bv1 (z12e m.2.1 m.2.2))[2]? =some (.int .i64 ((z12e m.2.1 m.2.2:Nat):Int)) from rfl);refine Wp.obind (y5 q5 (show ((z44d 0 (atM (z45 m c)) (some z)).set 1 _)[2]? =some (.int .i64 ((atM (z45 m c):Int)+1)) from rfl)) ?_;refine Wp.obind (z5 _ _) (Wp.obind (z11 _ _) (Wp.obind (z9 _ _ _) (Wp.obind c25 (Wp.obind (z5 _ _) ?_))))
   (((with_reducible refine ye ?_ ?_ ?_);omega;omega))
   refine Wp.st1 q5 (show 2<3 by decide) rfl fun h6 q6 t6 n6=>?_;have t46:Tch [h1.next] h4 h6:=t5.trans t6
   have hq1:h1.next ∉ z1ec mb ab R' bv1:=fun hb=>by
    rcases subM _ hb with hb|hb
    ·have := lt1 _ hb
     omega
    ·rcases List.mem_cons.1 ‹h1.next ∈ z1ec mb ab R' bv1› with hb | hb
     ·exact hqm hb
     rcases List.mem_append.1 hb with hb|hb
     ·have := lt1 _ (bufB hb)
      omega
     ·rcases sub3 _ hb with hb | hb
      ·exact hqS hb
      ·omega
   have m6:=m4.tch t46 (fun b hb hm=>hq1 (List.mem_singleton.1 hm▸hb)) (fun a ha hm=>by
    obtain⟨w,hw,e⟩:=nbR a ha;have:=(m1.arms.net w hw).2.2;have:=List.mem_singleton.1 hm;omega)
   obtain⟨h7,az7,bv7,e7,m7,a7,n7,s7,nn7,t7⟩:=empty_r (n:=n) (d:=d+3) (by omega) m6;refine Wp.callN e7 ?_
   (((with_reducible refine ye ?_ ?_ ?_);omega;omega))
   have hq6:h1.next<h6.next:=by omega
   have q7:=q6.tch t7 hq6 hq1;refine Wp.obind (y12 q7 rfl) ?_;rw[z10];have kh7:=((kh4.tch t46 hph (by simpa using (show h.next≠h1.next by omega))).tch t7 (by omega) hpS);refine Wp.stAll kh7 rfl rfl rfl fun h8 q8 t8 n8=>?_;refine Wp.obind (y12 q8 rfl) ?_
   have hfd:zcb m (c::s.drop (i+1)) i=(i+1,some (z.1,(z.2:Int) - ((z45 m c).2.2:Int),(z45 m c).2.1.length),((z55 c.toNat (atM (z45 m c)) (z45 m c).1).2.map z314,[],0)):=by
    rw[zcb,show (z45 m c).1=az1.map z116 by rw[e2],hz]
   have hS7:∀b∈z1ec mb ab az7 bv7,b≠h.next:=fun b hb e=>hpS (e▸s7 b hb)
   have m8:=m7.tch t8 (fun b hb hm=>hS7 b hb (List.mem_singleton.1 hm)) (fun a ha hm=>by
    have:a.nb∈az7.map (·.nb):=List.mem_map_of_mem ha;rw[n7,n3] at this;obtain⟨w,hw,e⟩:=List.mem_map.1 this;exact hnb1 w hw (e.trans (List.mem_singleton.1 hm)))
   have key:=hq h8 (z1ec mb ab az7 bv7) (z.1,(z.2:Int) - ((z45 m c).2.2:Int),(z45 m c).2.1.length) (by rw[hfd]) (by
    rw[hfd];refine⟨az7,bv7,m8,?_,rfl,?_,Nat.zero_le _,fun a ha=>?_,fun h=>absurd rfl h⟩
    ·rw[a7,a3,e2]
    ·rw[nbs1,n7]
    ·have : z116 a ∈ az7.map z116 := List.mem_map_of_mem ha
     rw[a7] at this;obtain⟨w,_,e⟩:=List.mem_map.1 this;have e':([]:List WayW)=a.l.map (·.2):=congrArg Prod.snd e;have:a.l=[]:=List.map_eq_nil_iff.1 e'.symm;rw[this];exact⟨Nat.zero_le _,fun _ h=>nomatch h⟩) (by
    have tB:Tch (z1ec mb ab az bv) H h7:=(tA.trans' t46 fun b hb=>by
     rw[List.mem_singleton.1 hb];exact .inr hle).trans' t7 subA
    exact(tB.mono fun b hb=>.inl (List.mem_cons_of_mem _ hb)).trans (t8.mono fun b hb=>.inl (by rw[List.mem_singleton.1 hb];exact List.mem_cons_self))) (fun b hb=>subA b (s7 b hb))
   rw[hfd] at key
   have ev:(((z44d 0 (atM (z45 m c)) (some z)).set 1 (.int .i64 ((z.2:Int) - ((z12e m.2.1 m.2.2:Nat):Int)))).set 2 (.int .i64 ((atM (z45 m c):Int)+1 - ((z12e m.2.1 m.2.2:Nat):Int))))=z39f (some (z.1,(z.2:Int) - ((z45 m c).2.2:Int),(z45 m c).2.1.length)):=by
    show [AV.int .i64 ((0+z.1:Nat):Int),AV.int .i64 ((z.2:Int) - ((z12e m.2.1 m.2.2:Nat):Int)),AV.int .i64 ((atM (z45 m c):Int)+1 - ((z12e m.2.1 m.2.2:Nat):Int))]=[AV.int .i64 (z.1:Int),AV.int .i64 ((z.2:Int) - ((z12e m.2.1 m.2.2:Nat):Int)),AV.int .i64 ((z20c m.2.1 c).length:Int)];rw[Nat.zero_add, ←hat]
    congr 3
    congr 1
    omega
   rw[ev,el];exact Wp.ret key
  |none=>
   refine y6 rfl ?_
   (((with_reducible refine ye ?_ ?_ ?_);omega;omega))
   rw[el]
   have hfd:zcb m (c::s.drop (i+1)) i=zcb ((z55 c.toNat (atM (z45 m c)) (z45 m c).1).2,(z45 m c).2.1,(z45 m c).2.2) (s.drop (i+1)) (i+1):=by
    rw[zcb,show (z45 m c).1=az1.map z116 by rw[e2],hz]
   rw[hfd] at hk hq
   have key:MatS h4 mb ab (z1ec mb ab R' bv1) nbs ((z55 c.toNat (atM (z45 m c)) (z45 m c).1).2,(z45 m c).2.1,(z45 m c).2.2):=by
    refine⟨R',bv1,m4,by rw[a3,e2],rfl,nbs1,hu1,?_,fun _=>w3 hz⟩
    have:(z45 m c).2.2+(z45 m c).2.1.length=atM (z45 m c)+1:=by
     unfold atM;omega
    show z2ed ((z45 m c).2.2+(z45 m c).2.1.length) R';rw[this];exact b3
   refine z39d hn hsl k (i+1) fu _ (z1ec mb ab R' bv1) h4 (by omega) (by omega) (by show (z45 m c).2.2+(z45 m c).2.1.length+k<80000;omega) key hT4 (by rw[t14.2.1,hx1]) kh4 hph hpS hnb (fun H' S' z' k' t' s' l'=>hk H' S' z' k' (tA.trans' t' subA) (fun b hb=>?_) l') (fun H' S' z z' k' t' s'=>hq H' S' z z' k' ((tA.mono fun b hb=>.inl (List.mem_cons_of_mem _ hb)).trans' t' fun b hb=>?_) fun b hb=>?_)
   ·rcases s' b hb with hb | hb
    ·exact subA b hb
    ·exact .inr (Nat.le_trans tA.1 hb)
   ·rcases List.mem_cons.1 hb with hb | hb
    ·exact .inl (by rw[hb];exact List.mem_cons_self)
    ·exact(subA b hb).imp (fun h=>List.mem_cons_of_mem _ h) id
   ·rcases s' b hb with hb | hb
    ·exact subA b hb
    ·exact .inr (Nat.le_trans tA.1 hb)
end
open Go.RowKit Abs
structure Frag where
 e:Bool
 F:Nat→Prop
 L:Nat→Prop
 E:Nat→Nat→Prop
 K:Nat→Nat→Prop
inductive Walk (a:Frag):Nat→List Nat→Nat→Prop
 |nil {q:Nat}:Walk a q [] q
 |cons {q r q' c:Nat} {s:List Nat} (e:a.E q r) (k:a.K r c) (w:Walk a r s q'):Walk a q (c::s) q'
def Fits1(a:Frag):List Nat→Prop
 |[]=>False
 |c::s=>∃q q',a.F q∧a.K q c∧a.L q'∧Walk a q s q'
structure Rec (a:Frag) (P:List Nat→Prop) (lo hi:Nat):Prop where
 e:a.e=true↔P []
 f:∀{c:Nat} {s:List Nat},Fits1 a (c::s)↔P (c::s)
 le:lo≤hi
 F:∀{q},a.F q→lo≤q∧q<hi
 L:∀{q},a.L q→lo≤q∧q<hi
 E:∀{q r},a.E q r→(lo≤q∧q<hi)∧lo≤r∧r<hi
 K:∀{q c},a.K q c→lo≤q∧q<hi
section
variable {a b:Frag}{P Q:List Nat→Prop}{lo mid hi u:Nat}{w:List Nat}
theorem Walk.left(ha:Rec a P lo mid)(hb:Rec b Q mid hi){X:Nat→Nat→Prop}{f:Frag}(hE:∀{q r},f.E q r→a.E q r∨b.E q r∨X q r)(hX:∀{q r},X q r→r<mid→False)(hK:∀{q c},f.K q c→a.K q c∨b.K q c){q q':Nat}{s:List Nat}(v:Walk f q s q'):
  q<mid→q'<mid→Walk a q s q':=by
 have back:∀{q q':Nat} {s:List Nat},Walk f q s q'→mid≤q→(∀{q r},X q r→mid≤r)→mid≤q':=by
  intro q q' s v
  induction v with
  |nil=>exact fun h _=>h
  |cons e k _ ih=>
   intro hq hx
   rcases hE e with h|h|h
   ·have := (ha.E h).1
    omega
   ·exact ih (hb.E h).2.1 hx
   ·exact ih (hx h) hx
 have hx2:∀{q r},X q r→mid≤r:=fun h=>Nat.le_of_not_lt fun h2=>hX h h2
 induction v with
 |nil=>exact fun _ _=>.nil
 |cons e k w ih=>
  intro h1 h2
  rcases hE e with h|h|h
  ·refine .cons h ?_ (ih (ha.E h).2.2 h2)
   rcases hK k with k|k
   ·exact k
   ·have := hb.K k
    have:=(ha.E h).2;omega
  ·have := (hb.E h).1
   omega
  ·have := back w (hx2 h) hx2
   omega
end
section
variable {N:Nt}(k:NtOk N)
include k
end
def oneB(c:UInt8):Nd:=z3b2 c.toNat
theorem at?_app(pre rest:Bytes)(i:Nat):at? (pre++rest) (pre.length+i)=(rest[i]?).map UInt8.toNat:=by
 unfold at?
 rw[List.getElem?_append_right (by omega),show pre.length+i - pre.length=i by omega]
theorem z41c{r:Res}:∀(rest pre:Bytes) (l:List Nd),FlatP (z284 (pre++rest)) (pre++rest) l pre.length r→r=.ok (z20d 3 (l++rest.map oneB),(pre++rest).length)
 |[],pre,l,k=>by
  cases k with
  |stop s=>simp
  |bad s h=>simp at s
  |more s h m=>simp at s
 |c::rest,pre,l,k=>by
  have hc:=at?_app pre (c::rest) 0;rw[Nat.add_zero] at hc
  have hp:z284 (pre++c::rest) pre.length=.ok (z3b2 c.toNat,pre.length+1):=by
   unfold z284;rw[hc];rfl
  cases k with
  |stop s=>simp at s;omega
  |bad s h=>rw[hp] at h;cases h
  |more s h m=>
   rw[hp] at h;cases h;have e:pre++c::rest=(pre++[c])++rest:=by simp
   have m':FlatP (z284 ((pre++[c])++rest)) ((pre++[c])++rest) (l++[oneB c]) (pre++[c]).length r:=by
    rw[←e,List.length_append];exact m
   have:=z41c rest (pre++[c]) (l++[oneB c]) m';rw[this, ←e]
   simp
def litT(u:Bytes):Nd:=z20d 3 (u.map oneB)
theorem tree_lit{u:Bytes}{r:Except Nat Nd}(h:TreeP u 1 r):r=.ok (litT u):=by
 generalize hk:(1:Int)=k at h
 cases h with
 |lit a=>
  have:=z41c (r:=_) u [] [] (by rw[List.nil_append];exact a);rw[this];rfl
 |glob a=>cases hk
 |re_bad a=>cases hk
 |re_end a n=>cases hk
 |re a=>cases hk
section
variable {h:AHeap}{mb ab:Nat}{S nbs:List Nat}{m:MS}
theorem MatS.nlt(k:MatS h mb ab S nbs m):∀b∈nbs,b<h.next:=by
 obtain⟨az,bv,k1,k2,rfl,rfl,_⟩:=k;intro b hb;obtain⟨a,ha,rfl⟩:=List.mem_map.1 hb;exact(k1.arms.net a ha).2.2
end
section
variable {n d mb ab:Nat}{h:AHeap}{S nbs:List Nat}{s:Bytes}{m:MS}{v:AV}{ps:List (Int×Bytes)}{ts:List Nd}
theorem feed_ok(hn:18446744073709551616<n)(km:MatS h mb ab S nbs m)(hT:HasTz h)(hx:h.ex=[])(hs:s.length<80000)(hb:m.2.2+m.2.1.length+s.length<80000):
  ∃h' S',world n (d+6) 19 [.ptr mb 0,z1f s] h=some (.ret (.tup [.int .i64 ((zcb m s 0).1:Int),.agg (z39f (zcb m s 0).2.1),.bool (zcb m s 0).2.1.isSome]),h')∧MatS h' mb ab S' nbs (zcb m s 0).2.2∧Tch S h h'∧∀b∈S',b∈S∨h.next≤b:=by
 suffices hK:Wp (world n (d+6) 19 [.ptr mb 0,z1f s] h) fun r h'=>∃S',r=.ret (.tup [.int .i64 ((zcb m s 0).1:Int),.agg (z39f (zcb m s 0).2.1),.bool (zcb m s 0).2.1.isSome])∧MatS h' mb ab S' nbs (zcb m s 0).2.2∧Tch S h h'∧∀b∈S',b∈S∨h.next≤b by
  obtain⟨_,h',e,S',rfl,k⟩:=hK;exact⟨h',S',e,k⟩
 rw[z1e5];unfold z76;have ll:=z77 s;refine y9 (Mem.nil [] h) fun h2 M2=>?_;have t2:=M2.tch;have hlt:=M2.at0.2.1;have n2:=t2.1
 have hS:h.next ∉ S:=fun hb=>by
  have:=km.lt _ hb;omega
 have hnb:∀b∈nbs,b≠h.next:=fun b hb e=>by
  have:=km.nlt b hb;omega
 refine Wp.outK (eqMat mb 0 h2) (Wp.obind (z6 _) (y6 rfl ?_));refine y17 fun k16 ek=>?_;refine z39d (n:=n) (d:=d) (h:=h) (nbs:=nbs) hn hs s.length 0 n m S h2 (by omega) (Nat.zero_add _) hb (km.tch t2 (fun _ _=>by simp) (fun _ _=>by simp)) (hT.tch t2 (by simp)) (by rw[t2.2.1,hx]) M2.at0.1 hlt hS hnb (fun H' S' z' k' t' s' l'=>?_) (fun H' S' z z' k' t' s'=>?_)
 ·rw [List.drop_zero] at z' k' l'
  rw[ek,z10];have kh:=M2.at0.1.tch t' hlt hS;refine Wp.stAll kh rfl rfl rfl fun h4 k4 t4 n4=>?_;refine Wp.obind (y12 k4 rfl) ?_;rw[z'];refine Wp.ret ⟨S',by rw[l',ll];rfl,k'.tch t4 (fun b hb hm=>?_) (fun b hb hm=>hnb b hb (List.mem_singleton.1 hm)),?_,fun b hb=>(s' b hb).imp id fun h=>by omega⟩
  ·have hm := List.mem_singleton.1 hm
   rcases s' b hb with hb|hb
   ·exact hS (hm▸hb)
   ·omega
  ·refine ((t2.mono fun b hb => nomatch hb).trans t').trans' t4 fun b hb => ?_
   rw[List.mem_singleton.1 hb];exact .inr (Nat.le_refl _)
 ·rw [List.drop_zero] at z' k' ⊢
  rw[z'];refine⟨S',rfl,k',(t2.mono fun b hb=>nomatch hb).trans' t' fun b hb=>?_,fun b hb=>(s' b hb).imp id fun h=>by omega⟩
  rcases List.mem_cons.1 hb with hb|hb
  ·rw [hb]
   exact .inr (Nat.le_refl _)
  ·exact .inl hb
def z2c4(ts:List Nd):MS:=(ts.map fun t=>(z140 t,[]),[],0)
theorem bldMat(ab L:Nat):z293 Tryd.prog TMat [(0,.sl ab 0 L 2)]=some (z46d ab L .nsl 0):=by kernel_rfl
theorem z496(hn:1000<n)(k:May n d ps ts)(hx:h.ex=[])(kp:Slc h.next h 2 v (ps.map z46c)):∃h' mb ab S nbs,world n (d+3) 16 [v] h=some (.ret (.tup [.ptr mb 0,.int .i64 0]),h')∧MatS h' mb ab S nbs (z2c4 ts)∧Tch [] h h'∧(∀b∈S,h.next≤b)∧(∀b∈nbs,h.next≤b)∧mb<h'.next∧h.next≤mb:=by
 suffices hK:Wp (world n (d+3) 16 [v] h) fun r h'=>∃mb ab S nbs,r=.ret (.tup [.ptr mb 0,.int .i64 0])∧MatS h' mb ab S nbs (z2c4 ts)∧Tch [] h h'∧(∀b∈S,h.next≤b)∧(∀b∈nbs,h.next≤b)∧mb<h'.next∧h.next≤mb by
  obtain⟨_,h',e,mb,ab,S,nbs,rfl,k⟩:=hK;exact⟨h',mb,ab,S,nbs,e,k⟩
 rw[z299];unfold z156;obtain⟨ab,h1,az,e1,t1,ka,ha,hab,hblk,hnbs,hB⟩:=z3a8 hn k hx kp;refine Wp.callN e1 (Wp.obind (zf1 _ _) (Wp.obind (zf0 _ _ _) (Wp.obind (z5 _ _) ?_)))
 ((with_reducible refine Wp.lett ?_))
 refine y6 rfl ?_;refine Wp.obind (bldMat _ _) ?_;refine y16 (Mem.nil [] h1) rfl fun h2 M2=>?_;have t2:=M2.tch
 have hlen:az.length=ts.length:=by
  have:=congrArg List.length ha;rw[List.length_map,List.length_map] at this;exact this
 have hts:=k.2.2.len;have h8:=k.2.1;have n1:=t1.1;have hl:=M2.at0.2.1;have hal:=ka.hab;refine Wp.ret ⟨h1.next,ab,z1ec h1.next ab az .nsl,az.map (·.nb),rfl,⟨az,.nsl,⟨M2.at0.1,hl,ka.tch t2 (by simp) (fun _ _=>by simp) (fun _ _=>by simp),.inl ⟨rfl,rfl⟩,fun hb=>?_,fun a ha e=>?_,(fun _ h=>nomatch h),by omega⟩,ha,rfl,rfl,Nat.zero_le _,fun a ha=>?_,fun h=>absurd rfl h⟩,t1.trans t2,fun b hb=>?_,fun b hb=>?_,hl,n1⟩
 ·rw [hblk] at hb
  have:=List.mem_singleton.1 hb;omega
 ·have := (ka.net a ha).2.2
  omega
 ·have := hB a ha
  exact⟨Nat.le_trans this.1 (Nat.zero_le _),fun x hx=>absurd (this.2 x hx) (Nat.not_lt_zero _)⟩
 ·rcases List.mem_cons.1 hb with hb | hb
  ·omega
  ·rw [hblk] at hb
   have hb:b∈[ab]:=hb;rw[List.mem_singleton.1 hb];exact hab
 ·obtain ⟨a, ha, rfl⟩ := List.mem_map.1 hb
  exact hnbs a ha
theorem z497(hn:18446744073709551620<n)(hd:1100≤d)(k:¬ ∃ts,May n d ps ts)(hx:h.ex=[])(kp:Slc h.next h 2 v (ps.map z46c))(hbig:ps.length<1000000000000000000):∃h',world n (d+3) 16 [v] h=some (.ret (.tup [.nilp,.int .i64 2]),h')∧Tch [] h h':=by
 suffices hK:Wp (world n (d+3) 16 [v] h) fun r h'=>r=.ret (.tup [.nilp,.int .i64 2])∧Tch [] h h' by
  obtain⟨_,h',e,rfl,k⟩:=hK;exact⟨h',e,k⟩
 rw[z299];unfold z156;obtain⟨h1,e1,t1⟩:=z464 hn hd k hx kp hbig;refine Wp.callN e1 (Wp.obind (zf1 _ _) (Wp.obind (zf0 _ _ _) (Wp.obind (z5 _ _) ?_)))
 ((with_reducible refine Wp.lett ?_))
 refine y7 rfl ?_;exact Wp.ret ⟨rfl,t1⟩
theorem z42d(km:MatS h mb ab S nbs m):world n (d+1) 21 [.ptr mb 0] h=some (.ret (z1f m.2.1),h):=by
 apply Wp.eq;rw[z1a8];unfold z5e;obtain⟨az,bv,k1,_⟩:=km;have c1:=y5 k1.row (show (z46d ab az.length bv m.2.2)[1]? =some bv from rfl)
 have e1:z19e Tryd.prog h TBy 9 (some bv)=some (.val (z1f m.2.1),h):=by
  rcases k1.buf with⟨rfl,e⟩|⟨c,rest,rfl,kc,_⟩
  ·rw [e]
   kernel_rfl
  ·refine conv_row (by kernel_rfl) (by kernel_rfl) ?_
   have:=kc.part (o:=0) (n:=(z64 m.2.1).length) (by rw[List.length_append];omega);rw[List.drop_zero,List.take_left' rfl,zb5] at this;exact this
 refine Wp.outK (eqMat mb 0 h) (Wp.obind (z6 _) (y6 rfl ?_));refine Wp.obind (z11 _ _) (Wp.obind (z9 _ _ _) (Wp.obind c1 (Wp.outK e1 (Wp.obind (z44 _) ?_))));exact Wp.ret ⟨rfl,rfl⟩
end
theorem z433{n d:Nat}{k:Int}{u:Bytes}{t:Nd}(hk:k=1∨k=2∨k=3)(hu:u.length≤64)(ht:∀r,TreeP u k r→r=.ok t)(he:z159 t=false)(hn:18446744073709551620<n)(hd:1100≤d):ArmOk n d (k,u) t:=by
 obtain⟨D,rfl⟩:∃D,d=D+3:=⟨d - 3,by omega⟩;obtain⟨r,r1,_,r3⟩:=(z2f4 (u:=u) (by omega) hk).2 (by omega)
 obtain rfl:=ht r r1
 have hz:=z29c r1;refine⟨r1,hu,he,fun h hx=>⟨of_ok (z2f5 r1) (by omega) (by omega) hn (fun h hx=>r3 (by omega) (by omega) hx) (by rw[hx];rfl),?_⟩⟩;have:=empty_w (n:=n) (D:=D+3) (k:=k) (u:=u) (t:=t) (h:=h) (by omega) (by omega) (by omega) (fun h hx=>r3 (by omega) (by omega) hx) (by rw[hx];rfl);rw[he] at this;exact this
def exP:Nd:=.mk 6 z91 [z3b2 97]
abbrev exV:Bytes:=[97,43]
theorem exV0:¬z439 exV 0:=by unfold z439;decide
theorem exV_part:PartP exV 0 (.ok (exP,2)):=PartP.sign (i:=0) (j:=1) (t:=z3b2 97) (.one (c:=97) rfl (by unfold z111;decide) (by decide)) (by decide)
theorem exV_row:RowP exV [] 0 (.ok (exP,2)):=.more exV0 exV_part (RowP.stop (l:=[exP]) (i:=2) (.inl rfl))
theorem z3e4:AltP exV [] 0 (.ok (exP,2)):=AltP.last (l:=[]) (t:=exP) exV_row (by decide)
theorem exV_tree(r:Except Nat Nd)(h:TreeP exV 3 r):r=.ok exP:=by
 generalize hk:(3:Int)=k at h
 cases h with
 |lit a=>cases hk
 |glob a=>cases hk
 |re_bad a=>cases ze2 a z3e4
 |re_end a n=>
  cases ze2 a z3e4
  exact absurd rfl n
 |re a=>
  cases ze2 a z3e4
  rfl
abbrev exPs:List (Int×Bytes):=[(1,[98]),(3,exV)]
abbrev exTs:List Nd:=[litT [98],exP]
theorem exMay{n d:Nat}(hn:18446744073709551620<n)(hd:1100≤d):May n d exPs exTs:=
 ⟨by decide,by decide,.cons (z433 (.inl rfl) (by decide) (fun r h=>tree_lit h) rfl hn hd) (.cons (z433 (.inr (.inr rfl)) (by decide) exV_tree rfl hn hd) .nil)⟩
set_option maxRecDepth 100000 in
theorem ex_first:z180 (exTs.map fun t=>(z140 t,[])) [120,97,98] 0=some (1,1,2):=by kernel_rfl
set_option maxRecDepth 100000 in
theorem ex_feed1:(zcb (z2c4 exTs) [120,97,98] 0).1=2:=by kernel_rfl
set_option maxRecDepth 100000 in
theorem ex_feed2:(zcb (z2c4 exTs) [120,97,98] 0).2.1=some (1,1,2):=by kernel_rfl
theorem flatHit:flatB Tryd.prog z3b0 [1,1,1]=true:=by kernel_rfl
theorem eqHit(a b c x y z:Int):zb4 Tryd.prog z3b0 (.agg [.int .i64 a,.int .i64 b,.int .i64 c]) (.agg [.int .i64 x,.int .i64 y,.int .i64 z])=some ((a == x)&&((b == y)&&((c == z)&&true))):=eq_flat flatHit (z1d9 rfl (z120 _ _ _) (z1d9 rfl (z120 _ _ _) (z1d9 rfl (z120 _ _ _) rfl)))
theorem keepA_w(n d:Nat)(h:AHeap):world n (d+1) 24 [z1f [97]] h=some (.ret (z1f [97]),h):=by
 apply Wp.eq;rw[z35d];refine y3c ?_
 suffices hK:Wp (z149 (world n d) n [97] h) fun r h'=>r=.ret (z1f [97])∧h'=h from hK.mono fun r h' ⟨e,t⟩=>⟨by rw[t];exact(Tch.refl [] h).above,by rw[e];rfl,e,rfl⟩
 exact⟨.ret (z1f [97]),h,by kernel_rfl,rfl,rfl⟩
theorem bldPats(h:AHeap):z147 Tryd.prog h 22 2 [(0,.agg ([.int .i64 1,z1f ([98]:Bytes)]:List AV)),(1,.agg ([.int .i64 3,z1f ([97,43]:Bytes)]:List AV))]=zaf h TPat [.int .i64 1,z1f [98],.int .i64 3,z1f [97,43]] 2 2:=by kernel_rfl
set_option maxRecDepth 100000 in
theorem works_w{n d:Nat}{h:AHeap}(hn:18446744073709551620<n)(hd:1200≤d)(hT:HasTz h)(hx:h.ex=[]):world n (d+1) 12 [] h=some (.ret (.bool true),h):=by
 apply Wp.eq;rw[z325];refine y3c ?_
 suffices hK:Wp (zf9 (world n d) n h) fun r h'=>r=.ret (.bool true)∧Tch [] h h' from hK.mono fun r h' ⟨e,t⟩=>⟨t.above,by rw[e];rfl,e,rfl⟩
 obtain⟨D,rfl⟩:∃D,d=D+6:=⟨d - 6,by omega⟩;unfold zf9;have hxM:∀{h1:AHeap} {rs:List zd9},Abs.Mem [] h h1 rs→h1.ex=[]:=fun M=>by rw[M.ex,hx]
 have hTM:∀{h1:AHeap} {rs:List zd9},Abs.Mem [] h h1 rs→HasTz h1:=fun M=>hT.tch M.tch (by simp);refine y2d (Mem.nil [] h) (bldPats h) rfl (by rw[hx];rfl) fun h1 M1=>?_;have slc:∀{h2:AHeap},RowH h2 h.next TPat [.int .i64 1,z1f [98],.int .i64 3,z1f [97,43]]→h.next<h2.next→Slc h2.next h2 2 (.sl h.next 0 2 2) (exPs.map z46c):=fun k hb=>k.slc (ls:=exPs.map z46c) rfl (by decide) (by decide) hb;obtain⟨h2,mb,ab,S,nbs,e2,km,t2,hS,hnb,hm1,hm2⟩:=z496 (n:=n) (d:=D+3) (h:=h1) (by omega) (exMay hn (by omega)) (hxM M1) (slc M1.at0.1 M1.at0.2.1);refine Wp.callN e2 ?_;have M2:=M1.keep t2
 repeat(first|(with_reducible first|refine y8 (fun _ _=>?_)|refine Wp.lett ?_|(apply Wp.obind;first|exact z5 _ _|exact z6 _|exact zf1 _ _|exact zf0 _ _ _))|((with_reducible refine y6 ?_ ?_);first|(with_reducible rfl)|((with_reducible apply z15c);omega))|(with_reducible first|(apply Wp.outK;exact eqMat _ _ _)|refine yd (by assumption) ?_))
 obtain⟨h3,e3,t3⟩:=z238 (n:=n) (d:=D) (h:=h2) (s:=[120,97,98]) hn (exMay hn (by omega)) (hxM M2) (hTM M2) (slc M2.at0.1 M2.at0.2.1) (by decide);rw[ex_first,Option.isSome_some] at e3;refine Wp.callN e3 ?_;have M3:=M2.keep t3;have km3:=km.tch t3 (fun _ _=>by simp) (fun _ _=>by simp);refine Wp.obind (zf1 _ _) (Wp.obind (z13 _) (Wp.obind (zf0 _ _ _) (Wp.obind (z6 _) ?_)));refine y9 (Mem.nil [] h3) fun h4 N4=>?_;rw[z10];refine y11 N4 rfl rfl rfl fun h5 N5=>?_;have t35:=N5.tch;have t05:Tch [] h h5:=M3.tch.trans t35;obtain⟨h6,S',e6,km6,t6,s6⟩:=feed_ok (n:=n) (d:=D) (s:=[120,97,98]) (by omega) (km3.tch t35 (fun _ _=>by simp) (fun _ _=>by simp)) (hT.tch t05 (by simp)) (by rw[t05.2.1,hx]) (by decide) (by decide);rw[ex_feed1,ex_feed2,Option.isSome_some] at e6;refine Wp.callN e6 ?_
 have hpS:h3.next ∉ S:=fun hb=>by
  have:=km.lt _ hb;have:=t3.1;omega
 have r6:=N5.at0.1.tch t6 N5.at0.2.1 hpS;have hp6:h3.next<h6.next:=Nat.lt_of_lt_of_le N5.at0.2.1 t6.1;refine Wp.obind (zf1 _ _) (Wp.obind (z5 _ _) (Wp.obind (zf0 _ _ _) (Wp.obind (z13 _) (Wp.obind (extT_2 _ _ _ _) (Wp.obind (z6 _) ?_)))));refine y9 (Mem.nil [] h6) fun h7 K7=>?_;rw[z10];refine y11 K7 rfl rfl rfl fun h8 K8=>?_;have t68:=K8.tch
 have t08:Tch [] h h8:=(t05.trans' t6 fun b hb=>by
  have:=hS b hb;have:=M1.tch.1
  right
  omega).trans t68
 have r8:z19 h8 3 (.ptr h3.next 0)=some [.int .i64 1,.int .i64 1,.int .i64 2]:=y12 (r6.tch t68 hp6 (by simp)) rfl;have q8:z19 h8 3 (.ptr h6.next 0)=some [.int .i64 1,.int .i64 1,.int .i64 2]:=y12 K8.at0.1 rfl;have eq1:zb4 Tryd.prog z3b0 (.agg [.int .i64 1,.int .i64 1,.int .i64 2]) (.agg [.int .i64 1,.int .i64 1,.int .i64 2])=some true:=eqHit 1 1 2 1 1 2;have kw:=keepA_w n (D+5) h8
 repeat(first|(with_reducible first|refine y8 (fun _ _=>?_)|refine Wp.lett ?_|(apply Wp.obind;first|exact r8|exact q8|exact eq1|exact z44 _))|((with_reducible refine y7 ?_ ?_);first|(with_reducible rfl)|((with_reducible apply z7f);omega))|(with_reducible first|(apply Wp.callN;exact kw)|refine yd (by assumption) ?_))
 exact Wp.ret ⟨rfl,t08⟩
open Go.RowKit Abs
def z1e6(m:MS)(c:UInt8):Option (Nat×Int×Nat)×MS:=match (z55 c.toNat (atM (z45 m c)) (z45 m c).1).1 with
 |some z=>(some (z.1,(z.2:Int) - ((z45 m c).2.2:Int),(z45 m c).2.1.length),((z55 c.toNat (atM (z45 m c)) (z45 m c).1).2.map z314,[],0))
 |none=>(none,((z55 c.toNat (atM (z45 m c)) (z45 m c).1).2,(z45 m c).2.1,(z45 m c).2.2))
abbrev z182:=(Nat×Int×Nat)×Nat
def z1e7:MS→Bytes→Nat→List z182×MS
 |m,[],_=>([],m)
 |m,c::s,at_=>match (z1e6 m c).1 with
  |some z=>((z,at_+1)::(z1e7 (z1e6 m c).2 s (at_+1)).1,(z1e7 (z1e6 m c).2 s (at_+1)).2)
  |none=>z1e7 (z1e6 m c).2 s (at_+1)
theorem z456(m:MS)(c:UInt8)(s:Bytes)(i:Nat):zcb m (c::s) i=match (z1e6 m c).1 with
  |some z=>(i+1,some z,(z1e6 m c).2)
  |none=>zcb (z1e6 m c).2 s (i+1):=by
 rw[zcb];unfold z1e6
 cases(z55 c.toNat (atM (z45 m c)) (z45 m c).1).1<;>rfl
theorem z405:∀(a b:Bytes) (m:MS) (at_:Nat),z1e7 m (a++b) at_=((z1e7 m a at_).1++(z1e7 (z1e7 m a at_).2 b (at_+a.length)).1,(z1e7 (z1e7 m a at_).2 b (at_+a.length)).2)
 |[],b,m,at_=>rfl
 |c::a,b,m,at_=>by
  rw[List.cons_append,z1e7,z1e7,List.length_cons,show at_+(a.length+1)=at_+1+a.length by omega,z405 a b]
  cases(z1e6 m c).1<;>rfl
theorem z47a{m:MS}{c:UInt8}(h:m.2.1.length≤256):(z1e6 m c).2.2.1.length≤256∧(z1e6 m c).2.2.2+(z1e6 m c).2.2.1.length≤m.2.2+m.2.1.length+1:=by
 have h1:=z38c (c:=c) h;have h2:=z38d (m:=m) (c:=c) h;unfold z1e6
 split
 ·exact⟨Nat.zero_le _,Nat.zero_le _⟩
 ·exact⟨h1.1,by show (z45 m c).2.2+(z45 m c).2.1.length≤_;omega⟩
theorem z39e:∀(s:Bytes) (m:MS) (i at_:Nat),m.2.1.length≤256→∃k,(zcb m s i).1=i+k∧k≤s.length∧(zcb m s i).2.2.2.1.length≤256∧(zcb m s i).2.2.2.2+(zcb m s i).2.2.2.1.length≤m.2.2+m.2.1.length+k∧
  (((zcb m s i).2.1=none∧k=s.length∧z1e7 m s at_=([],(zcb m s i).2.2))∨∃z,(zcb m s i).2.1=some z∧1≤k∧z1e7 m s at_=((z,at_+k)::(z1e7 (zcb m s i).2.2 (s.drop k) (at_+k)).1,(z1e7 (zcb m s i).2.2 (s.drop k) (at_+k)).2))
 |[],m,i,at_,h=>⟨0,rfl,Nat.le_refl _,h,Nat.le_refl _,.inl ⟨rfl,rfl,rfl⟩⟩
 |c::s,m,i,at_,h=>by
  obtain⟨b1,b2⟩:=z47a (c:=c) h;rw[z456,z1e7];cases hz:(z1e6 m c).1 with
  |some z=>exact⟨1,rfl,by rw[List.length_cons];omega,b1,b2,.inr ⟨z,rfl,Nat.le_refl _,rfl⟩⟩
  |none=>
   obtain⟨k,k1,k2,k3,k4,k5⟩:=z39e s (z1e6 m c).2 (i+1) (at_+1) b1;refine⟨k+1,by rw[k1];omega,by rw[List.length_cons];omega,k3,Nat.le_trans k4 (by omega),?_⟩
   rcases k5 with⟨q1,q2,q3⟩|⟨z,q1,q2,q3⟩
   ·exact .inl ⟨q1,by rw[List.length_cons,q2],q3⟩
   ·refine .inr ⟨z, q1, by omega, ?_⟩
    rw[List.drop_succ_cons,show at_+(k+1)=at_+1+k by omega];exact q3
abbrev z115:Nat:=82
abbrev z19c:Nat:=42
noncomputable def z30c(z:z182):List AV:=z39f (some z.1)++[.int .i64 (z.2:Int)]
noncomputable def z8e:List z182→List AV
 |[]=>[]
 |z::F=>z30c z++z8e F
theorem z196:∀F:List z182,(z8e F).length=4*F.length
 |[]=>rfl
 |z::F=>by
  have:=z196 F;rw[z8e,List.length_append,this];show 4+4*F.length=4*(F.length+1);omega
theorem z20e:∀a b:List z182,z8e (a++b)=z8e a++z8e b
 |[],_=>rfl
 |x::a,b=>by rw[List.cons_append,z8e,z8e,z20e a b,List.append_assoc]
def OutAt(h:AHeap)(v:AV)(F:List z182):Prop:=(v=.nsl∧F=[])∨∃c,v=.sl c 0 F.length 4∧RowH h c z115 (z8e F)∧c<h.next
section
variable {h h':AHeap}{v:AV}{F:List z182}{z:z182}{b1:Nat}
theorem OutAt.tch{S:List Nat}(k:OutAt h v F)(t:Tch S h h')(hd:∀b∈zc4 v,b ∉ S):OutAt h' v F:=by
 rcases k with k|⟨c,rfl,h2,h3⟩
 ·exact .inl k
 ·exact .inr ⟨c,rfl,h2.tch t h3 (hd c (List.mem_singleton.2 rfl)),Nat.lt_of_lt_of_le h3 t.1⟩
theorem OutAt.lt(k:OutAt h v F):∀b∈zc4 v,b<h.next:=by
 rcases k with⟨rfl,_⟩|⟨c,rfl,_,h3⟩
 ·exact fun b hb=>nomatch hb
 ·intro b hb
  rw[List.mem_singleton.1 hb];exact h3
theorem z41d:fitB Tryd.prog z115 32=true:=by kernel_rfl
theorem OutAt.push(k:OutAt h v F)(kr:RowH h b1 z115 (z30c z))(hm:F.length<1000000)(hx:h.ex=[]):
  ∃h',z72 Tryd.prog h z19c z19c v (.sl b1 0 1 4)=some (.val (.sl h.next 0 (F.length+1) 4),h')∧OutAt h' (.sl h.next 0 (F.length+1) 4) (F++[z])∧Tch (zc4 v) h h':=by
 have he:Abs.elemOf Tryd.prog z19c=some z115:=by kernel_rfl
 have hu:z22c Tryd.prog z19c=true:=by kernel_rfl
 have hsz:Tryd.prog.cellsOf z115=4:=by kernel_rfl
 have hex:zbd z115 h.ex=false:=by rw[hx];rfl
 have eb:z8e (F++[z])=z8e F++z30c z:=by
  rw[z20e];show z8e F++(z30c z++[])=_;rw[List.append_nil]
 have el:F.length+1=(F++[z]).length:=by rw[List.length_append,List.length_singleton]
 rcases k with⟨rfl,rfl⟩|⟨c,rfl,h2,h3⟩
 ·have a1 := z1df (P := Tryd.prog) (h := h) (t := z19c) (u := z19c) (n := 0) (x := .sl b1 0 1 4) he hu hsz rfl (z158 kr rfl) (zd7 z41d (by omega) (by omega)) rfl hex
  refine⟨_,a1,.inr ⟨h.next,by rw[el],?_,Nat.lt_succ_self _⟩,Tch.newH _ _ _ _⟩;rw[eb];exact RowH.new _ _ _
 ·have hcl := z196 F
  have a1:=z19a (P:=Tryd.prog) (h:=h) (t:=z19c) (u:=z19c) (b:=c) (o:=0) (m:=F.length) (n:=0) (x:=.sl b1 0 1 4) (cs:=z8e F) he hu hsz rfl (z158 kr rfl) (zd7 z41d (by omega) (by omega)) rfl hex (by
   have:=h2.part (o:=0) (n:=(z8e F).length) (by omega);rw[List.drop_zero,List.take_length] at this;rw[show F.length*4=(z8e F).length by omega];exact this) h2.type
  refine⟨_,a1,.inr ⟨h.next,by rw[el],?_,Nat.lt_succ_self _⟩,(Tch.put (S:=[c]) (.inl (List.mem_singleton.2 rfl)) _).trans (Tch.newH _ _ _ _)⟩;rw[eb];exact RowH.new (h.put c .dead) _ _
end
theorem bldFound(a b c d:Int):z293 Tryd.prog z115 [(0,.agg [.int .i64 a,.int .i64 b,.int .i64 c]),(1,.int .i64 d)]=some [.int .i64 a,.int .i64 b,.int .i64 c,.int .i64 d]:=by kernel_rfl
theorem z463(h:AHeap)(a b c d:Int):z147 Tryd.prog h z19c 1 [(0,.agg [.int .i64 a,.int .i64 b,.int .i64 c,.int .i64 d])]=zaf h z115 [.int .i64 a,.int .i64 b,.int .i64 c,.int .i64 d] 1 4:=by kernel_rfl
structure AllAt (hA H:AHeap) (mb ab:Nat) (nbs S0 S:List Nat) (v:AV) (F:List z182) (m:MS):Prop where
 mat:MatS H mb ab S nbs m
 out:OutAt H v F
 ob:∀b∈zc4 v,hA.next≤b∧b ∉ S
 tch:Tch S0 hA H
 sub:∀b∈S,b∈S0∨hA.next≤b
 nb:∀b∈nbs,b<hA.next
 tz:HasTz H
 ex:H.ex=[]
section
variable {n d mb ab:Nat}{hA:AHeap}{nbs S0:List Nat}{Q:ARes→AHeap→Prop}{k24:AV→Int→AHeap→R}
theorem z2d6(hn:18446744073709551616<n):
  ∀(fu:Nat) (s:Bytes) (F:List z182) (at_:Nat) (m:MS) (S:List Nat) (v:AV) (H:AHeap),s.length<fu→AllAt hA H mb ab nbs S0 S v F m→m.2.2+m.2.1.length+s.length<80000→m.2.1.length≤256→at_+s.length<80000→F.length≤at_→s.length<80000→
   (∀(H':AHeap) (S':List Nat) (v':AV),AllAt hA H' mb ab nbs S0 S' v' (F++(z1e7 m s at_).1) (z1e7 m s at_).2→(z1e7 m s at_).2.2.2+(z1e7 m s at_).2.2.1.length≤m.2.2+m.2.1.length+s.length→(z1e7 m s at_).2.2.1.length≤256→(F++(z1e7 m s at_).1).length≤at_+s.length→Wp (k24 v' ((at_+s.length:Nat):Int) H') Q)→
   Wp (z12c (world n (d+6)) (.ptr mb 0) k24 fu v (at_:Int) s H) Q
 |0,_,_,_,_,_,_,_,hf,_,_,_,_,_,_,_=>by omega
 |fu+1,s,F,at_,m,S,v,H,hf,K,hb,hu,hat,hF,hsl,hk=>by
  have ll:=z77 s;rw[z1f2];unfold z143
  by_cases h0:s.length=0
  ·have e0 : s = [] := List.eq_nil_of_length_eq_zero h0
   subst e0
   repeat(first|(with_reducible refine Wp.lett ?_)|((with_reducible refine y6 ?_ ?_;apply decide_eq_false);omega))
   exact hk H S v (by show AllAt _ _ _ _ _ _ _ _ (F++[]) m;rw[List.append_nil];exact K) (Nat.le_refl _) hu (by show (F++[]).length≤_;rw[List.append_nil];exact hF)
  ·obtain ⟨k, k1, k2, k3, k4, k5⟩ := z39e s m 0 at_ hu
   rw[Nat.zero_add] at k1;obtain⟨h1,S1,e1,m1,t1,s1⟩:=feed_ok (n:=n) (d:=d) hn K.mat K.tz K.ex hsl hb;rw[k1] at e1
   have hk1:1≤k:=by
    rcases k5 with⟨_,h,_⟩|⟨_,_,h,_⟩
    ·omega
    ·exact h
   have hle:=K.tch.1;have hlt1:=t1.1
   have ob1:∀b∈zc4 v,hA.next≤b∧b ∉ S1:=fun b hb=>by
    obtain⟨p1,p2⟩:=K.ob b hb;refine⟨p1,fun hm=>?_⟩
    rcases s1 b hm with hm|hm
    ·exact p2 hm
    ·have := K.out.lt b hb
     omega
   have out1:=K.out.tch t1 (fun b hb=>(K.ob b hb).2);have tA1:Tch S0 hA h1:=K.tch.trans' t1 K.sub
   have sub1:∀b∈S1,b∈S0∨hA.next≤b:=fun b hb=>by
    rcases s1 b hb with hb|hb
    ·exact K.sub b hb
    ·exact .inr (by omega)
   have hT1:=K.tz.tch t1 (K.mat.tz K.tz);have hx1:h1.ex=[]:=by rw[t1.2.1,K.ex]
   ((with_reducible refine Wp.lett ?_))
   refine y7 (by rw[decide_eq_true_eq];omega) ?_;refine Wp.callN e1 (Wp.obind (zf1 _ _) (Wp.obind (z5 _ _) (Wp.obind (zf0 _ _ _) (Wp.obind (z13 _) (Wp.obind (extT_2 _ _ _ _) (Wp.obind (z6 _) ?_))))));refine y9 (Mem.nil [] h1) fun h2 M2=>?_;rw[z10];refine y11 M2 (feedC_len _) rfl (feedC_one _) fun h3 M3=>?_;have t3:=M3.tch;have n3:=t3.1;have q3:=M3.at0.1;have hq3:=M3.at0.2.1;have K3:AllAt hA h3 mb ab nbs S0 S1 v F (zcb m s 0).2.2:=⟨m1.tch t3 (fun _ _=>by simp) (fun _ _=>by simp),out1.tch t3 (fun _ _=>by simp),ob1,tA1.trans (t3.mono fun b hb=>nomatch hb),sub1,K.nb,hT1.tch t3 (by simp),by rw[t3.2.1,hx1]⟩
   have esl:z2f8 s (k:Int) (z12a s)=some (s.drop k):=by
    rw[ll];have:=z43c (l:=s) k2 (Nat.le_refl _);rw[List.take_of_length_le (by rw[List.length_drop];exact Nat.le_refl _)] at this;exact this
   have eat:(at_:Int)+(k:Int)=((at_+k:Nat):Int):=by omega
   have hdl:(s.drop k).length=s.length - k:=List.length_drop
   have hq0:h1.next ∉ S1:=fun hb=>by
    have:=m1.lt _ hb;omega
   rcases k5 with⟨z1,z2,z3⟩|⟨z,z1,z2,z3⟩
   ·rw [z1] at q3
    have r3:z19 h3 3 (.ptr h1.next 0)=some [.int .i64 0,.int .i64 0,.int .i64 0]:=y12 q3 rfl;have eq0:zb4 Tryd.prog z3b0 (.agg [.int .i64 0,.int .i64 0,.int .i64 0]) (.agg [.int .i64 0,.int .i64 0,.int .i64 0])=some true:=eqHit 0 0 0 0 0 0;have b1:(!(none:Option (Nat×Int×Nat)).isSome)=true:=rfl;have b2:(none:Option (Nat×Int×Nat)).isSome=false:=rfl;rw[z1]
    repeat(first|(with_reducible refine y8 (fun _ _=>?_))|((with_reducible refine ye ?_ ?_ ?_);omega;omega)|(with_reducible first|refine Wp.lett ?_|(apply Wp.obind;first|exact r3|exact eq0|exact esl)|(refine y7 ?_ ?_;assumption))|((with_reducible refine y6 ?_ ?_);first|(with_reducible first|assumption|exact Bool.not_true)|((with_reducible first|apply decide_eq_false|apply z15c);omega))|(with_reducible refine yd (by assumption) ?_))
    rw[eat];have hd0:s.drop k=[]:=List.drop_of_length_le (by omega);rw[hd0];rw[z3] at hk;refine z2d6 hn fu [] F (at_+k) _ S1 v h3 (by show 0<fu;omega) K3 (by show _+0<80000;omega) k3 (by show at_+k+0<80000;omega) (by omega) (by decide) fun H' S' v' K' c1 c2 c3=>?_;have:=hk H' S' v' K' (Nat.le_trans k4 (by omega)) c2 (Nat.le_trans c3 (by show at_+k+0≤_;omega));rw[show at_+s.length=at_+k+([]:Bytes).length by show _=at_+k+0;omega] at this;exact this
   ·rw [z1] at q3
    have r3:z19 h3 3 (.ptr h1.next 0)=some (z39f (some z)):=y12 q3 rfl;have b1:(!(some z).isSome)=false:=rfl;have b2:(some z).isSome=true:=rfl;rw[z1]
    repeat(first|(with_reducible refine y8 (fun _ _=>?_))|((with_reducible refine ye ?_ ?_ ?_);omega;omega)|(with_reducible first|refine Wp.lett ?_|(apply Wp.obind;first|exact esl|exact r3)|(refine y7 ?_ ?_;assumption))|((with_reducible refine y6 ?_ ?_);first|(with_reducible first|rfl|assumption)|((with_reducible apply decide_eq_false);omega))|(with_reducible refine yd (by assumption) ?_))
    rw[eat];refine Wp.obind (bldFound _ _ _ _) ?_;refine y2d (Mem.nil [] h3) (z463 _ _ _ _ _) rfl (by rw[K3.ex];rfl) fun h4 M4=>?_;have t4:=M4.tch;have n4:=t4.1;obtain⟨h5,e5,o5,t5⟩:=(K3.out.tch t4 (fun _ _=>by simp)).push (z:=(z,at_+k)) M4.at0.1 (by omega) (by rw[t4.2.1,K3.ex]);refine Wp.outK e5 ?_;have nS:∀b∈S1,b ∉ zc4 v:=fun b hb hm=>(ob1 b hm).2 hb
    have K5:AllAt hA h5 mb ab nbs S0 S1 (.sl h4.next 0 (F.length+1) 4) (F++[(z,at_+k)]) (zcb m s 0).2.2:=by
     refine⟨(K3.mat.tch t4 (fun _ _=>by simp) (fun _ _=>by simp)).tch t5 nS (fun b hb hm=>?_),o5,fun b hb=>?_,(K3.tch.trans (t4.mono fun b hb=>nomatch hb)).trans' t5 fun b hb=>.inr (ob1 b hb).1,sub1,K.nb,(K3.tz.tch t4 (by simp)).tch t5 fun hb=>?_,by rw[t5.2.1,t4.2.1,K3.ex]⟩
     ·have := K.nb b hb
      have:=(ob1 b hm).1;omega
     ·have hb := List.mem_singleton.1 hb
      subst hb;refine⟨by omega,fun hm=>?_⟩;have:=K3.mat.lt _ hm;omega
     ·rcases K3.out with ⟨rfl, _⟩ | ⟨c, rfl, kc, _⟩
      ·exact nomatch hb
      ·exact z218 K3.tz kc (List.mem_singleton.1 hb)
    repeat((with_reducible refine yd (by assumption) ?_))
    rw[z3] at hk;refine z2d6 hn fu (s.drop k) (F++[(z,at_+k)]) (at_+k) _ S1 _ h5 (by omega) K5 (by omega) k3 (by omega) (by rw[List.length_append,List.length_singleton];omega) (by omega) fun H' S' v' K' c1 c2 c3=>?_;rw[List.append_assoc] at K' c3;have:=hk H' S' v' K' (Nat.le_trans c1 (by omega)) c2 (Nat.le_trans c3 (by omega));rw[show at_+s.length=at_+k+(s.drop k).length by omega] at this;exact this
end
noncomputable def z6f(t1:AV)(k42:Bytes→AHeap→R)(self:Bytes→Int→AHeap→R)(t9_79:Bytes)(t10:Int)(h_80:AHeap):R:=obind (z160 t1) fun t53=>lett (decide (t10<t53)) fun (t54:Bool)=>ifB t54 (obind (z194 1 t1 t10) fun t60=>obind (z8 h_80 t60) fun v61=>obind (z181 v61) fun t61=>obind (addS t9_79 t61) fun t62=>lett (IntKind.i64.wrap (t10+1)) fun (t56:Int)=>self t62 t56 h_80) (k42 t9_79 h_80)
noncomputable def z7e(t1:AV)(k42:Bytes→AHeap→R):Nat→Bytes→Int→AHeap→R:=ze9 (fun _ _ _=>none) (z6f t1 k42)
theorem zc6(t1:AV)(k42:Bytes→AHeap→R)(m:Nat):z7e t1 k42 (m+1)=z6f t1 k42 (z7e t1 k42 m):=rfl
noncomputable def ze0(call:zd)(n:Nat)(t0:AV)(t1:AV)(h:AHeap):R:=callN (call 12 [] h) fun r15 h_4=>obind (z24 r15) fun t15=>lett (!t15) fun (t16:Bool)=>ifB t16 (some (.ret (.bool false),h_4)) (callN (call 16 [t0] h_4) fun r19 h_10=>obind (z15e 0 r19) fun v20=>obind (z15e 1 r19) fun v21=>obind (avInt .i64 v21) fun t21=>callN (call 16 [t0] h_10) fun r24 h_16=>obind (z15e 0 r24) fun v25=>obind (z15e 1 r24) fun v26=>obind (avInt .i64 v26) fun t26=>lett ((t21:Int) != t26) fun (t29:Bool)=>lett (fun (t36:Bool) (h_24:AHeap)=>lett (fun (t43:Bool) (h_27:AHeap)=>ifB t43 (some (.ret (.bool false),h_27)) (lett ((t21:Int) != 0) fun (t45:Bool)=>lett (fun (t50:Bool) (h_34:AHeap)=>ifB t50 (some (.ret (.bool true),h_34)) (lett (fun (t9:Bytes) (h_43:AHeap)=>callN (call 22 [v20,t1] h_43) fun r66 h_45=>obind (z15e 0 r66) fun v67=>obind (z15e 1 r66) fun v68=>obind (z24 v68) fun t68=>outK (z147 Tryd.prog h_45 30 1 [(0,z1f t9)]) fun v72 h_51=>callN (call 22 [v25,v72] h_51) fun r73 h_53=>obind (z15e 0 r73) fun v74=>obind (z15e 1 r73) fun v75=>obind (z24 v75) fun t75=>lett (fun (t79:Bool) (h_59:AHeap)=>lett (fun (t84:Bool) (h_62:AHeap)=>lett (fun (t91:Bool) (h_65:AHeap)=>some (.ret (.bool t91),h_65)) fun j91=>ifB t84 (callN (call 21 [v20] h_62) fun r87 h_68=>obind (z181 r87) fun t87=>callN (call 21 [v25] h_68) fun r89 h_71=>obind (z181 r89) fun t89=>lett (eqS t87 t89) fun (t90:Bool)=>j91 t90 h_71) (j91 false h_62)) fun j84=>ifB t79 (callN (call 23 [v67,v74] h_59) fun r83 h_75=>obind (z24 r83) fun t83=>j84 t83 h_75) (j84 false h_59)) fun j79=>ifB t68 (j79 t75 h_53) (j79 false h_53)) fun k42=>z7e t1 k42 n ([]:Bytes) 0 h_34)) fun j50=>ifB t45 (j50 true h_27) (callN (call 18 [t1,.int .i64 2000] h_27) fun r48 h_92=>obind (avInt .i64 r48) fun t48=>lett (decide (t48>2000)) fun (t49:Bool)=>j50 t49 h_92))) fun j43=>ifB t36 (j43 true h_24) (outK (zca Tryd.prog h_24 .eql 31 true (some v25) (some AV.nilp)) fun v39 h_96=>obind (z24 v39) fun t39=>lett ((t21:Int) != 0) fun (t41:Bool)=>lett (!((t39:Bool) == t41)) fun (t42:Bool)=>j43 t42 h_96)) fun j36=>ifB t29 (j36 true h_16) (outK (zca Tryd.prog h_16 .eql 31 true (some v20) (some AV.nilp)) fun v32 h_101=>obind (z24 v32) fun t32=>lett ((t21:Int) != 0) fun (t34:Bool)=>lett (!((t32:Bool) == t34)) fun (t35:Bool)=>j36 t35 h_101))
set_option maxHeartbeats 4000000 in
set_option maxRecDepth 20000 in
theorem z1eb{call:zd}(hc:SaysAll Tryd.prog call){n:Nat}{t0:AV}{t1:AV}{h:AHeap}{rR:ARes}{hR:AHeap}(hF:ze0 call n t0 t1 h=some (rR,hR)):Says Tryd.prog 5 [t0,t1] h rR hR:=by
 unfold ze0 at hF;refine sO Tryd.func5 fun w0 m0=>?_;refine wW [(0,t0),(1,t1)] ?_;refine oG fun n1=>W.r ?_;refine oA 4 (.bool false) ?_;refine oV [(0,t0),(1,t1)] (n1 ?_);refine oH fun n2 q2=>?_;refine oG fun n3=>W.r ?_;refine oCb hc 15 hF fun t15 h_4 hF=>?_;refine oB 16 hF fun t16 hF=>?_;refine oV [(0,t0),(1,t1),(16,.bool t16)] (n3 ?_)
 cases t16 with
 |true=>
  refine oT hF fun hF=>?_;refine oG fun n8=>W.r ?_;refine oA 4 (.bool false) ?_;refine oV [(4,.bool false)] (n8 (oY (q2 ?_)));exact lZ hF [.tmp 4] [.bool false] (rT zf)
 |false=>
  refine oU hF fun hF=>?_;refine oZ (n2 ?_);refine oG fun n9=>W.r ?_;refine oA 18 t0 ?_;refine oC hc (some 19) hF fun r19 h_10 hF=>?_;refine oA 17 r19 ?_;refine oE 20 hF fun v20 hF=>?_;refine oEi 21 hF fun t21 hF=>?_;refine oA 5 v20 ?_;refine oA 6 (.int .i64 t21) ?_;refine oV [(0,t0),(1,t1),(5,v20),(6,.int .i64 t21)] (n9 ?_);refine oG fun n15=>W.r ?_;refine oA 23 t0 ?_;refine oC hc (some 24) hF fun r24 h_16 hF=>?_;refine oA 22 r24 ?_;refine oE 25 hF fun v25 hF=>?_;refine oEi 26 hF fun t26 hF=>?_;refine oA 7 v25 ?_;refine oA 8 (.int .i64 t26) ?_;refine oV [(1,t1),(5,v20),(6,.int .i64 t21),(7,v25),(8,.int .i64 t26)] (n15 ?_);refine oH fun n21 q21=>?_;refine W.s (fun K22 n22 e22 q22 p22=>?_);refine W.r ?_;refine oA 27 (.int .i64 t21) ?_;refine oA 28 (.int .i64 t26) ?_;refine oB 29 hF fun t29 hF=>?_;refine oA 30 (.bool t29) ?_;obtain⟨j36,e25,hF⟩:=zc hF
  have J26:∀(t36:Bool) (h_24:AHeap),j36 t36 h_24=some (rR,hR)→WL Tryd.prog w0 m0 (Func.ntmps Tryd.f5) (Code.ops (y4 (y4 (y3 (y3 (y3 (y3 (z78 Tryd.f5)))))))) 10 K22 [(1,t1),(5,v20),(6,.int .i64 t21),(7,v25),(36,.bool t36)] [] h_24:=by
   intro t36 h_24 hF;rw[e25] at hF;refine oA 37 (.bool t36) ?_;obtain⟨j43,e28,hF⟩:=zc hF
   have J29:∀(t43:Bool) (h_27:AHeap),j43 t43 h_27=some (rR,hR)→WL Tryd.prog w0 m0 (Func.ntmps Tryd.f5) (Code.ops (y4 (y4 (y3 (y3 (y3 (y3 (z78 Tryd.f5)))))))) 17 K22 [(1,t1),(5,v20),(6,.int .i64 t21),(7,v25),(43,.bool t43)] [] h_27:=by
    intro t43 h_27 hF;rw[e28] at hF;refine oV [(1,t1),(5,v20),(6,.int .i64 t21),(7,v25),(43,.bool t43)] (n22 ?_)
    cases t43 with
    |true=>
     refine oT hF fun hF=>?_;refine oG fun n30=>W.r ?_;refine oA 4 (.bool false) ?_;refine oV [(4,.bool false)] (n30 (oY (q21 ?_)));exact lZ hF [.tmp 4] [.bool false] (rT zf)
    |false=>
     refine oU hF fun hF=>?_;refine oZ (n21 ?_);refine oH fun n31 q31=>?_;refine W.s (fun K32 n32 e32 q32 p32=>?_);refine W.r ?_;refine oA 44 (.int .i64 t21) ?_;refine oB 45 hF fun t45 hF=>?_;refine oA 46 (.bool t45) ?_;obtain⟨j50,e35,hF⟩:=zc hF
     have J36:∀(t50:Bool) (h_34:AHeap),j50 t50 h_34=some (rR,hR)→WL Tryd.prog w0 m0 (Func.ntmps Tryd.f5) (Code.ops (y4 (y4 (y3 (y3 (y3 (y3 (y3 (z78 Tryd.f5))))))))) 7 K32 [(1,t1),(5,v20),(7,v25),(50,.bool t50)] [] h_34:=by
      intro t50 h_34 hF;rw[e35] at hF;refine oV [(1,t1),(5,v20),(7,v25),(50,.bool t50)] (n32 ?_)
      cases t50 with
      |true=>
       refine oT hF fun hF=>?_;refine oG fun n37=>W.r ?_;refine oA 4 (.bool true) ?_;refine oV [(4,.bool true)] (n37 (oY (q31 ?_)));exact lZ hF [.tmp 4] [.bool true] (rT zf)
      |false=>
       refine oU hF fun hF=>?_;refine oZ (n31 ?_);refine oG fun n38=>W.r ?_;refine oA 9 (z1f ([]:Bytes)) ?_;refine oV [(1,t1),(5,v20),(7,v25),(9,z1f ([]:Bytes))] (n38 ?_);refine W.s (fun K39 n39 e39 q39 p39=>?_);refine oG fun n40=>W.r ?_;refine oA 10 (.int .i64 0) ?_;refine oV [(1,t1),(5,v20),(7,v25),(9,z1f ([]:Bytes)),(10,.int .i64 0)] (n40 ?_);obtain⟨k42,e42,hF⟩:=zc hF
       have J42:∀(t9:Bytes) (h_43:AHeap),k42 t9 h_43=some (rR,hR)→Go w0 m0 (Func.ntmps Tryd.f5) (K39 .normal) [(1,t1),(5,v20),(7,v25),(9,z1f t9)] [] h_43:=by
        intro t9 h_43 hF;rw[e42] at hF;refine n39 ?_;refine oG fun n44=>W.r ?_;refine oA 64 v20 ?_;refine oA 65 t1 ?_;refine oC hc (some 66) hF fun r66 h_45 hF=>?_;refine oA 63 r66 ?_;refine oE 67 hF fun v67 hF=>?_;refine oEb 68 hF fun t68 hF=>?_;refine oA 11 v67 ?_;refine oA 12 (.bool t68) ?_;refine oV [(5,v20),(7,v25),(9,z1f t9),(11,v67),(12,.bool t68)] (n44 ?_);refine oG fun n50=>W.r ?_;refine oA 70 v25 ?_;refine oA 71 (z1f t9) ?_;refine oK 72 hF fun v72 h_51 hF=>?_;refine oC hc (some 73) hF fun r73 h_53 hF=>?_;refine oA 69 r73 ?_;refine oE 74 hF fun v74 hF=>?_;refine oEb 75 hF fun t75 hF=>?_;refine oA 13 v74 ?_;refine oA 14 (.bool t75) ?_;refine oV [(5,v20),(7,v25),(11,v67),(12,.bool t68),(13,v74),(14,.bool t75)] (n50 ?_);refine W.s (fun K58 n58 e58 q58 p58=>?_);refine W.r ?_;refine oA 76 (.bool t68) ?_;refine oA 77 (.bool t68) ?_;obtain⟨j79,e60,hF⟩:=zc hF
        have J61:∀(t79:Bool) (h_59:AHeap),j79 t79 h_59=some (rR,hR)→WL Tryd.prog w0 m0 (Func.ntmps Tryd.f5) (Code.ops (y4 (y3 (y3 (y3 (y3 (y3 (y3 (y3 (y3 (y3 (y3 (z78 Tryd.f5))))))))))))) 4 K58 [(5,v20),(7,v25),(11,v67),(13,v74),(79,.bool t79)] [] h_59:=by
         intro t79 h_59 hF;rw[e60] at hF;refine oA 80 (.bool t79) ?_;obtain⟨j84,e63,hF⟩:=zc hF
         have J64:∀(t84:Bool) (h_62:AHeap),j84 t84 h_62=some (rR,hR)→WL Tryd.prog w0 m0 (Func.ntmps Tryd.f5) (Code.ops (y4 (y3 (y3 (y3 (y3 (y3 (y3 (y3 (y3 (y3 (y3 (z78 Tryd.f5))))))))))))) 9 K58 [(5,v20),(7,v25),(84,.bool t84)] [] h_62:=by
          intro t84 h_62 hF;rw[e63] at hF;refine oA 85 (.bool t84) ?_;obtain⟨j91,e66,hF⟩:=zc hF
          have J67:∀(t91:Bool) (h_65:AHeap),j91 t91 h_65=some (rR,hR)→WL Tryd.prog w0 m0 (Func.ntmps Tryd.f5) (Code.ops (y4 (y3 (y3 (y3 (y3 (y3 (y3 (y3 (y3 (y3 (y3 (z78 Tryd.f5))))))))))))) 16 K58 [(91,.bool t91)] [] h_65:=by
           intro t91 h_65 hF;rw[e66] at hF;refine oA 4 (.bool t91) ?_;refine oV [(4,.bool t91)] (n58 (oY ?_));exact lZ hF [.tmp 4] [.bool t91] (rT zf)
          cases t84 with
          |true=>
           replace hF:=zeb hF
           refine oA 86 v20 ?_;refine oCs hc 87 hF fun t87 h_68 hF=>?_;refine oA 88 v25 ?_;refine oCs hc 89 hF fun t89 h_71 hF=>?_;refine oB 90 hF fun t90 hF=>?_;refine oA 91 (.bool t90) ?_;exact lW _ (J67 _ _ hF)
          |false=>
           replace hF:=zec hF
           refine WL.o (some 86) ?_;refine WL.o (some 87) ?_;refine WL.o (some 88) ?_;refine WL.o (some 89) ?_;refine WL.o (some 90) ?_;refine oA 91 (.bool false) ?_;exact lW _ (J67 _ _ hF)
         cases t79 with
         |true=>
          replace hF:=zeb hF
          refine oA 81 v67 ?_;refine oA 82 v74 ?_;refine oCb hc 83 hF fun t83 h_75 hF=>?_;refine oA 84 (.bool t83) ?_;exact lW _ (J64 _ _ hF)
         |false=>
          replace hF:=zec hF
          refine WL.o (some 81) ?_;refine WL.o (some 82) ?_;refine WL.o (some 83) ?_;refine oA 84 (.bool false) ?_;exact lW _ (J64 _ _ hF)
        cases t68 with
        |true=>
         replace hF:=zeb hF
         refine oA 78 (.bool t75) ?_;refine oA 79 (.bool t75) ?_;exact lW _ (J61 _ _ hF)
        |false=>
         replace hF:=zec hF
         refine WL.o (some 78) ?_;refine oA 79 (.bool false) ?_;exact lW _ (J61 _ _ hF)
       refine yc (by kernel_rfl) (fun K41 n41 s41 o41 q41 p41=>?_);refine y14 (by kernel_rfl) (fun I78 K78 b78 n78 e78 q78 p78=>?_)
       have L78:∀(m:Nat) (t9_79:Bytes) (t10:Int) (h_80:AHeap),z7e t1 k42 m t9_79 t10 h_80=some (rR,hR)→Go w0 m0 (Func.ntmps Tryd.f5) I78 [(1,t1),(5,v20),(7,v25),(9,z1f t9_79),(10,.int .i64 t10)] [] h_80:=by
        intro m
        induction m with
        |zero=>intro t9_79 t10 h_80 hF;cases hF
        |succ m ih78=>
         intro t9_79 t10 h_80 hF;rw[zc6] at hF;unfold z6f at hF;refine b78 ?_;refine W.s (fun K81 n81 e81 q81 p81=>?_);refine oG fun n82=>W.r ?_;refine oA 51 (.int .i64 t10) ?_;refine oA 52 t1 ?_;refine oM 53 30 9 hF fun t53 hF=>?_;refine oB 54 hF fun t54 hF=>?_;refine oV [(1,t1),(5,v20),(7,v25),(9,z1f t9_79),(10,.int .i64 t10),(54,.bool t54)] (n82 ?_)
         cases t54 with
         |true=>
          refine oT hF fun hF=>?_;refine oZ (n81 ?_);refine oG fun n85=>?_;refine yc (by kernel_rfl) (fun K86 n86 s86 o86 q86 p86=>?_);refine W.r ?_;refine oA 57 (z1f t9_79) ?_;refine oA 58 t1 ?_;refine oA 59 (.int .i64 t10) ?_;refine oP 60 30 9 .i64 hF fun t60 hF=>?_;refine oLs 61 9 hF fun t61 hF=>?_;obtain⟨t62,e90,hF⟩:=z4 hF;refine WL.b (some 62) (z1f t62) h_80 (add_str (P:=Tryd.prog) (h:=h_80) (t:=9) (lit:=false) e90) ?_;refine oA 9 (z1f t62) ?_;refine oV [(1,t1),(5,v20),(7,v25),(9,z1f t62),(10,.int .i64 t10)] (n86 (n85 (W.r ?_)));refine oA 55 (.int .i64 t10) ?_;refine oI 56 .i64 hF fun t56 hF=>?_;refine oA 10 (.int .i64 t56) ?_;refine oV [(1,t1),(5,v20),(7,v25),(9,z1f t62),(10,.int .i64 t56)] (n78 ?_);exact gW _ (ih78 _ _ _ hF)
         |false=>
          refine oU hF fun hF=>?_;refine W.exit (by kernel_rfl) ?_;refine e81 (e78 ?_);refine s41 (by kernel_rfl) ?_;exact gW _ (J42 _ _ hF)
       exact gW _ (L78 _ _ _ _ hF)
     cases t45 with
     |true=>
      replace hF:=zeb hF
      refine WL.o (some 47) ?_;refine WL.o (some 48) ?_;refine WL.o (some 49) ?_;refine oA 50 (.bool true) ?_;exact lW _ (J36 _ _ hF)
     |false=>
      replace hF:=zec hF
      refine oA 47 t1 ?_;refine oCi hc 48 hF fun t48 h_92 hF=>?_;refine oB 49 hF fun t49 hF=>?_;refine oA 50 (.bool t49) ?_;exact lW _ (J36 _ _ hF)
   cases t36 with
   |true=>
    replace hF:=zeb hF
    refine WL.o (some 38) ?_;refine WL.o (some 39) ?_;refine WL.o (some 40) ?_;refine WL.o (some 41) ?_;refine WL.o (some 42) ?_;refine oA 43 (.bool true) ?_;exact lW _ (J29 _ _ hF)
   |false=>
    replace hF:=zec hF
    refine oA 38 v25 ?_
    replace hF:=z33 hF;obtain⟨v39,h_96,e97,hF⟩:=hF
    replace hF:=z4 hF;obtain⟨t39,c98,hF⟩:=hF
    have c98:=z46 c98;subst c98;refine WL.b (some 39) (.bool t39) h_96 e97 ?_;refine oA 40 (.int .i64 t21) ?_;refine oB 41 hF fun t41 hF=>?_;refine oB 42 hF fun t42 hF=>?_;refine oA 43 (.bool t42) ?_;exact lW _ (J29 _ _ hF)
  cases t29 with
  |true=>
   replace hF:=zeb hF
   refine WL.o (some 31) ?_;refine WL.o (some 32) ?_;refine WL.o (some 33) ?_;refine WL.o (some 34) ?_;refine WL.o (some 35) ?_;refine oA 36 (.bool true) ?_;exact lW _ (J26 _ _ hF)
  |false=>
   replace hF:=zec hF
   refine oA 31 v20 ?_
   replace hF:=z33 hF;obtain⟨v32,h_101,e102,hF⟩:=hF
   replace hF:=z4 hF;obtain⟨t32,c103,hF⟩:=hF
   have c103:=z46 c103;subst c103;refine WL.b (some 32) (.bool t32) h_101 e102 ?_;refine oA 33 (.int .i64 t21) ?_;refine oB 34 hF fun t34 hF=>?_;refine oB 35 hF fun t35 hF=>?_;refine oA 36 (.bool t35) ?_;exact lW _ (J26 _ _ hF)
def z3b1(h:AHeap)(S:List Nat)(pv:AV)(ss:List Bytes):Prop:=z160 pv=some (ss.length:Int)∧∀H,Tch S h H→∀(i:Nat) (hi:i<ss.length),∃p,z194 1 pv (i:Int)=some p∧z8 H p=some (z1f ss[i])
theorem z36e{N:Nat}{h:AHeap}{S:List Nat}{pv:AV}{ss:List Bytes}(k:Slc N h 1 pv (ss.map fun s=>[z1f s]))(hN:N≤h.next)(hS:∀b∈S,N≤b):z3b1 h S pv ss:=by
 refine⟨by have:=k.len;rw[List.length_map] at this;exact this,fun H t i hi=>?_⟩;obtain⟨b,_,h1,h2⟩:=(k.tch t hN hS).cell (f:=z1f) (vs:=ss) hi;exact⟨_,h1,h2⟩
section
variable {n d mb ab:Nat}{h hA:AHeap}{nbs S S0:List Nat}{Q:ARes→AHeap→Prop}{m:MS}{pv:AV}{ss:List Bytes}
theorem z3ad{k7:AV→AHeap→R}(hn:18446744073709551616<n)(kp:z3b1 hA S0 pv ss)(hss:ss.length<1000000000000000000):
  ∀(rest:List Bytes) (i fu:Nat) (F:List z182) (at_:Nat) (m:MS) (S:List Nat) (v:AV) (H:AHeap),ss.drop i=rest→rest.length<fu→AllAt hA H mb ab nbs S0 S v F m→m.2.2+m.2.1.length+rest.flatten.length<80000→m.2.1.length≤256→at_+rest.flatten.length<80000→F.length≤at_→80000<n→
   (∀(H':AHeap) (S':List Nat) (v':AV),AllAt hA H' mb ab nbs S0 S' v' (F++(z1e7 m rest.flatten at_).1) (z1e7 m rest.flatten at_).2→Wp (k7 v' H') Q)→
   Wp (z12d (world n (d+6)) n (.ptr mb 0) pv k7 fu v (at_:Int) (i:Int) H) Q
 |_,_,0,_,_,_,_,_,_,_,hf,_,_,_,_,_,_,_=>by omega
 |[],i,fu+1,F,at_,m,S,v,H,hd,hf,K,hb,hu,hat,hF,hn8,hk=>by
  have hl:=drop_nil hd;rw[z170];unfold z110;refine Wp.obind kp.1 ?_
  ((with_reducible refine Wp.lett ?_))
  refine y6 (by rw[decide_eq_false_iff_not];omega) ?_;refine hk H S v ?_;show AllAt _ _ _ _ _ _ _ _ (F++[]) m;rw[List.append_nil];exact K
 |s::rest,i,fu+1,F,at_,m,S,v,H,hd,hf,K,hb,hu,hat,hF,hn8,hk=>by
  obtain⟨hi,hsi,hd2⟩:=z15b hd;rw[List.length_cons] at hf;have hfl:(s::rest).flatten.length=s.length+rest.flatten.length:=by rw[List.flatten_cons,List.length_append]
  rw[hfl] at hb hat;obtain⟨p,i1,c1⟩:=kp.2 H K.tch i hi;rw[hsi] at c1;have el:(i:Int)+1=((i+1:Nat):Int):=by omega
  rw[z170];unfold z110;refine Wp.obind kp.1 ?_
  ((with_reducible refine Wp.lett ?_))
  refine y7 (by rw[decide_eq_true_eq];omega) ?_;refine Wp.obind i1 (Wp.obind c1 (Wp.obind (z44 _) ?_));refine y17 fun k24 ek=>?_;refine z2d6 (n:=n) (d:=d) hn n s F at_ m S v H (by omega) K (by omega) hu (by omega) hF (by omega) fun H' S' v' K' c1 c2 c3=>?_;rw[ek]
  (((with_reducible refine ye ?_ ?_ ?_);omega;omega))
  rw[el];refine z3ad hn kp hss rest (i+1) fu _ (at_+s.length) _ S' v' H' hd2 (by omega) K' (by omega) c2 (by omega) c3 hn8 fun H'' S'' v'' K''=>hk H'' S'' v'' ?_;rw[List.flatten_cons,z405, ←List.append_assoc];exact K''
theorem all_ok(hn:18446744073709551616<n)(km:MatS h mb ab S nbs m)(hT:HasTz h)(hx:h.ex=[])(kp:z3b1 h S pv ss)(hss:ss.length<n)(hss2:ss.length<1000000000000000000)(hb:m.2.2+m.2.1.length+ss.flatten.length<80000):
  ∃h' S' v',world n (d+7) 22 [.ptr mb 0,pv] h=some (.ret (.tup [v',.bool true]),h')∧AllAt h h' mb ab nbs S S' v' (z1e7 m ss.flatten 0).1 (z1e7 m ss.flatten 0).2:=by
 suffices hK:Wp (world n (d+7) 22 [.ptr mb 0,pv] h) fun r h'=>∃S' v',r=.ret (.tup [v',.bool true])∧AllAt h h' mb ab nbs S S' v' (z1e7 m ss.flatten 0).1 (z1e7 m ss.flatten 0).2 by
  obtain⟨_,h',e,S',v',rfl,k⟩:=hK;exact⟨h',S',v',e,k⟩
 rw[z3b7];unfold z17d;refine y17 fun k7 ek=>?_
 have hu:m.2.1.length≤256:=by
  obtain⟨_,_,_,_,_,_,h,_⟩:=km;exact h
 have K0:AllAt h h mb ab nbs S S .nsl [] m:=⟨km,.inl ⟨rfl,rfl⟩,(fun _ h=>nomatch h),Tch.refl _ _,fun b hb=>.inl hb,km.nlt,hT,hx⟩;refine z3ad (n:=n) (d:=d) hn kp hss2 ss 0 n [] 0 m S .nsl h rfl hss K0 hb hu (by omega) (Nat.le_refl _) (by omega) fun H' S' v' K'=>?_;rw[ek];exact Wp.ret ⟨S',v',rfl,K'⟩
end
theorem eqA_flat{P:Program}{t:TypeId}{ks:List Nat}{xs ys:List AV}{b:Bool}{d:Nat}(hd:1500<d)(hf:flatB P t ks=true)(he:eqL ks xs ys=some b):eqA P (d+1) t (.agg xs) (.agg ys)=some b:=by
 unfold flatB at hf;simp only[Bool.and_eq_true,Bool.not_eq_true'] at hf;obtain⟨⟨⟨⟨h1,h2⟩,h3⟩,h4⟩,h5⟩:=hf;have h5:(P.fieldsOf t).toList.length <1000:=Nat.le_of_ble_eq_true h5;obtain⟨d,rfl⟩:∃d',d=d'+1:=⟨d - 1,by omega⟩;unfold eqA;cases hu:P.underlying t with
 |none=>rw[hu] at h1;cases h1
 |some u=>
  rw[hu] at h1
  cases u<;>simp at h1
  simp only[h3,Bool.false_eq_true,if_false];exact z197 _ ks 0 d xs ys [] [] b h4 rfl rfl he (by omega)
def z4b5:List Field→Bool
 |[f1,f2]=> !(f1.name == "_")&& !(f2.name == "_")&&Nat.beq f1.type z3b0&&Nat.beq f2.type 3&&Nat.beq f1.offset 0&&Nat.beq f2.offset 3
 |_=>false
theorem found_ok:z4b5 (Tryd.prog.fieldsOf z115).toList=true:=by kernel_rfl
theorem z396:∃f1 f2:Field,(Tryd.prog.fieldsOf z115).toList=[f1,f2]∧¬f1.name= "_" ∧¬f2.name= "_" ∧f1.type=z3b0∧f2.type=3∧f1.offset=0∧f2.offset=3:=by
 have h:=found_ok
 generalize(Tryd.prog.fieldsOf z115).toList=L at h
 match L,h with
 |[f1,f2],h=>
  unfold z4b5 at h;simp only[Bool.and_eq_true,Bool.not_eq_true'] at h;obtain⟨⟨⟨⟨⟨h1,h2⟩,h3⟩,h4⟩,h5⟩,h6⟩:=h;exact⟨f1,f2,rfl,by simpa using h1,by simpa using h2,Nat.eq_of_beq_eq_true h3,Nat.eq_of_beq_eq_true h4,Nat.eq_of_beq_eq_true h5,Nat.eq_of_beq_eq_true h6⟩
theorem part_hit(a b c d:Int):z1e8 Tryd.prog z3b0 [.int .i64 a,.int .i64 b,.int .i64 c,.int .i64 d] 0=some (.agg [.int .i64 a,.int .i64 b,.int .i64 c]):=by kernel_rfl
theorem eqFound(a b c d:Int):zb4 Tryd.prog z115 (.agg [.int .i64 a,.int .i64 b,.int .i64 c,.int .i64 d]) (.agg [.int .i64 a,.int .i64 b,.int .i64 c,.int .i64 d])=some true:=by
 have h0:Tryd.prog.eqGuardType Tryd.prog.depth z115=false:=by kernel_rfl
 have h1:(match Tryd.prog.underlying z115 with|some (.struct _)=>true|_=>false)=true:=by kernel_rfl
 have h3:Tryd.prog.stoodInHeld z115=false:=by kernel_rfl
 have hk:z449 Tryd.prog 3=1:=by kernel_rfl
 obtain⟨f1,f2,hf,n1,n2,t1,t2,o1,o2⟩:=z396;have e0:eqL [1,1,1] [.int .i64 a,.int .i64 b,.int .i64 c] [.int .i64 a,.int .i64 b,.int .i64 c]=some ((a == a)&&((b == b)&&((c == c)&&true))):=z1d9 rfl (z120 _ _ _) (z1d9 rfl (z120 _ _ _) (z1d9 rfl (z120 _ _ _) rfl))
 have e1:eqA Tryd.prog 1998 z3b0 (.agg [.int .i64 a,.int .i64 b,.int .i64 c]) (.agg [.int .i64 a,.int .i64 b,.int .i64 c])=some true:=by
  have:=eqA_flat (P:=Tryd.prog) (d:=1997) (by decide) flatHit e0;rw[this]
  simp
 have e2:eqA Tryd.prog 1997 3 (.int .i64 d) (.int .i64 d)=some true:=by
  have:=z420 (P:=Tryd.prog) (d:=1996) (t:=3) (x:=.int .i64 d) (y:=.int .i64 d) hk.symm (z120 .i64 d d);rw[this]
  simp
 have p2:z1e8 Tryd.prog 3 [.int .i64 a,.int .i64 b,.int .i64 c,.int .i64 d] 3=some (.int .i64 d):=z255 (by rw[hk];decide) rfl;unfold zb4;simp only[h0,Bool.false_eq_true,if_false];unfold eqA;cases hu:Tryd.prog.underlying z115 with
 |none=>rw[hu] at h1;cases h1
 |some u=>
  rw[hu] at h1
  cases u<;>simp at h1
  simp only[h3,Bool.false_eq_true,if_false];rw[hf];unfold eqFields;rw[if_neg n1,t1,o1,part_hit];dsimp only;rw[e1];dsimp only;unfold eqFields;rw[if_neg n2,t2,o2,p2];dsimp only;rw[e2];rfl
theorem z4aa{b m i:Nat}(h:i<m):z194 4 (.sl b 0 m 4) (i:Int)=some (.ptr b (0+i*4)):=by
 have e:Nat.blt i m=true:=by simpa using h
 show (match Nat.blt i m with|true=>some (AV.ptr b (0+i*4))|false=>none)=_;rw[e]
theorem z41a{h:AHeap}{c i:Nat}{F:List z182}(k:RowH h c z115 (z8e F))(hi:i<F.length):z19 h 4 (.ptr c (0+i*4))=some (z30c F[i]):=by
 have e:z8e F=z8e (F.take i)++(z30c F[i]++z8e (F.drop (i+1))):=by
  have:=z20e (F.take i) (F.drop i);rw[List.take_append_drop] at this;rw[this,List.drop_eq_getElem_cons hi,z8e]
 have hl:(z8e (F.take i)).length=0+i*4:=by rw[z196,List.length_take];omega
 rw[k.ld (by rw[z196];omega),e,List.drop_left' hl]
 congr 1
section
variable {n d:Nat}{h:AHeap}{v w:AV}{F:List z182}{Q:ARes→AHeap→Prop}
theorem z369{k11:AHeap→R}{c1 c2:Nat}(k1:RowH h c1 z115 (z8e F))(k2:RowH h c2 z115 (z8e F))(hF:F.length<1000000)(hk:Wp (k11 h) Q):
  ∀(k fu i:Nat),k<fu→i+k=F.length→Wp (z10f (.sl c1 0 F.length 4) (.sl c2 0 F.length 4) k11 fu (i:Int) h) Q
 |_,0,_,hf,_=>by omega
 |0,fu+1,i,hf,hi=>by
  rw[zd6];unfold z9e;refine Wp.obind (show z160 (.sl c1 0 F.length 4)=some (F.length:Int) from rfl) ?_
  ((with_reducible refine Wp.lett ?_))
  refine y6 (by rw[decide_eq_false_iff_not];omega) ?_;exact hk
 |k+1,fu+1,i,hf,hi=>by
  have hil:i<F.length:=by omega
  have el:(i:Int)+1=((i+1:Nat):Int):=by omega
  rw[zd6];unfold z9e;refine Wp.obind (show z160 (.sl c1 0 F.length 4)=some (F.length:Int) from rfl) ?_
  ((with_reducible refine Wp.lett ?_))
  refine y7 (by rw[decide_eq_true_eq];omega) ?_;refine Wp.obind (z4aa hil) (Wp.obind (z41a k1 hil) (Wp.obind (z4aa hil) (Wp.obind (z41a k2 hil) (Wp.obind (eqFound _ _ _ _) ?_))))
  ((with_reducible refine Wp.lett ?_))
  refine y6 rfl ?_
  (((with_reducible refine ye ?_ ?_ ?_);omega;omega))
  rw[el];exact z369 k1 k2 hF hk k fu (i+1) (by omega) (by omega)
theorem same_w(hn:1000000<n)(k1:OutAt h v F)(k2:OutAt h w F)(hF:F.length<1000000):world n (d+1) 23 [v,w] h=some (.ret (.bool true),h):=by
 apply Wp.eq;rw[z35e];unfold z14a
 have l1:z160 v=some (F.length:Int):=by
  rcases k1 with⟨rfl,rfl⟩|⟨c,rfl,_⟩<;>rfl
 have l2:z160 w=some (F.length:Int):=by
  rcases k2 with⟨rfl,rfl⟩|⟨c,rfl,_⟩<;>rfl
 refine Wp.obind l1 (Wp.obind l2 ?_)
 ((with_reducible refine Wp.lett ?_))
 refine y6 (by rw[bne_self_eq_false]) ?_;refine y17 fun k11 ek=>?_
 rcases k1 with⟨rfl,rfl⟩|⟨c1,rfl,k1,_⟩
 ·obtain ⟨n, rfl⟩ : ∃ n', n = n' + 1 := ⟨n - 1, by omega⟩
  rw[zd6];unfold z9e;refine Wp.obind l1 ?_
  ((with_reducible refine Wp.lett ?_))
  refine y6 rfl ?_;rw[ek];exact Wp.ret ⟨rfl,rfl⟩
 ·rcases k2 with ⟨rfl, rfl⟩ | ⟨c2, rfl, k2, _⟩
  ·obtain ⟨n, rfl⟩ : ∃ n', n = n' + 1 := ⟨n - 1, by omega⟩
   rw[zd6];unfold z9e;refine Wp.obind l1 ?_
   ((with_reducible refine Wp.lett ?_))
   refine y6 rfl ?_;rw[ek];exact Wp.ret ⟨rfl,rfl⟩
  ·refine z369 k1 k2 hF ?_ F.length n 0 (by omega) (Nat.zero_add _)
   rw[ek];exact Wp.ret ⟨rfl,rfl⟩
theorem z3fc{pv:AV}{ss:List Bytes}{k6:Int→AHeap→R}{most:Nat}(kp:z3b1 h [] pv ss)(hm:most<1000000)(hss:ss.length<1000000000000000000)(hs:∀s∈ss,s.length≤reachBytes)(hk:∀t:Nat,(most<t∨t=ss.flatten.length)→Wp (k6 (t:Int) h) Q):∀(k fu i:Nat) (t:Nat),k<fu→i+k=ss.length→t+(ss.drop i).flatten.length=ss.flatten.length→t≤most+reachBytes→Wp (z12b pv (most:Int) k6 fu (t:Int) (i:Int) h) Q
 |_,0,_,_,hf,_,_,_=>by omega
 |0,fu+1,i,t,hf,hi,ht,hb=>by
  rw[z16f];unfold z10e;have e:ss.drop i=[]:=List.drop_of_length_le (by omega);rw[e] at ht;refine Wp.obind kp.1 ?_
  repeat(first|(with_reducible first|refine y8 (fun _ _=>?_)|refine Wp.lett ?_)|((with_reducible refine y6 ?_ ?_);first|(with_reducible rfl)|((with_reducible apply decide_eq_false);omega))|(with_reducible refine yd (by assumption) ?_))
  exact hk t (.inr (by have:t+0=_:=ht;omega))
 |k+1,fu+1,i,t,hf,hi,ht,hb=>by
  have hil:i<ss.length:=by omega
  have el:(i:Int)+1=((i+1:Nat):Int):=by omega
  rw[z16f];unfold z10e;refine Wp.obind kp.1 ?_
  by_cases hm2:most<t
  ·repeat (first | (with_reducible first | refine y8 (fun _ _ => ?_) | refine Wp.lett ?_) | ((with_reducible refine y7 ?_ ?_; apply decide_eq_true); omega) | ((with_reducible refine y6 ?_ ?_; apply decide_eq_false); omega) | (with_reducible refine yd (by assumption) ?_))
   exact hk t (.inl hm2)
  ·obtain ⟨p, i1, c1⟩ := kp.2 h (Tch.refl _ _) i hil
   have hsl:=hs _ (List.getElem_mem hil);have ll:=z77 ss[i];have reach:reachBytes≤1152921504606846976:=by decide
   repeat(first|(with_reducible refine y8 (fun _ _=>?_))|((with_reducible refine ye ?_ ?_ ?_);omega;omega)|(with_reducible first|refine Wp.lett ?_|(apply Wp.obind;first|exact i1|exact c1|exact z44 _))|((with_reducible refine y7 ?_ ?_;apply decide_eq_true);omega)|(with_reducible refine yd (by assumption) ?_))
   rw[el,ll,show (t:Int)+((ss[i]).length:Int)=((t+(ss[i]).length:Nat):Int) by omega];refine z3fc kp hm hss hs hk k fu (i+1) _ (by omega) (by omega) ?_ (by omega);rw[List.drop_eq_getElem_cons hil,List.flatten_cons,List.length_append] at ht;omega
theorem sum_w{pv:AV}{ss:List Bytes}{most:Nat}(kp:z3b1 h [] pv ss)(hm:most<1000000)(hss:ss.length<1000000000000000000)(hn:ss.length<n)(hs:∀s∈ss,s.length≤reachBytes):∃t:Nat,(most<t∨t=ss.flatten.length)∧world n (d+1) 18 [pv,.int .i64 (most:Int)] h=some (.ret (.int .i64 (t:Int)),h):=by
 suffices hK:Wp (world n (d+1) 18 [pv,.int .i64 (most:Int)] h) fun r h'=>∃t:Nat,(most<t∨t=ss.flatten.length)∧r=.ret (.int .i64 (t:Int))∧h'=h by
  obtain⟨_,h',e,t,h1,rfl,rfl⟩:=hK;exact⟨t,h1,e⟩
 rw[z3b6];unfold z17c;refine y17 fun k6 ek=>?_;refine z3fc kp hm hss hs (fun t ht=>?_) ss.length n 0 0 hn (Nat.zero_add _) (by rw[List.drop_zero,Nat.zero_add]) (Nat.zero_le _);rw[ek];exact Wp.ret ⟨t,ht,rfl,rfl⟩
end
set_option maxRecDepth 100000 in
theorem z48b{N:Nat}{h:AHeap}:∀{ls:List (List AV)},(∀li∈ls,Plain Tryd.prog N h 11 TPat li)→∃ps:List (Int×Bytes),ls=ps.map z46c∧∀p∈ps,p.2.length≤reachBytes
 |[],_=>⟨[],rfl,fun _ h=>nomatch h⟩
 |l::ls,hp=>by
  obtain⟨ps,rfl,h2⟩:=z48b (fun li hl=>hp li (List.mem_cons_of_mem _ hl));obtain⟨y1,y2,rfl,p1,p2⟩:=(hp l List.mem_cons_self).struct2 Tryd.underlying51;obtain⟨k,rfl,_⟩:=p1.int Tryd.underlying3;obtain⟨u,rfl,hu⟩:=p2.str Tryd.underlying9;refine⟨(k,u)::ps,rfl,fun p hp=>?_⟩
  rcases List.mem_cons.1 hp with rfl|hp
  ·exact hu
  ·exact h2 p hp
set_option maxRecDepth 100000 in
theorem args_pats{N:Nat}{h:AHeap}{x:AV}(hp:ArgP Tryd.prog N h 12 22 x):∃ps:List (Int×Bytes),Slc N h 2 x (ps.map z46c)∧ps.length<1000000000000000000:=by
 obtain⟨ls,h1,h2,h3⟩:=hp.slice Tryd.underlying22;obtain⟨ps,rfl,_⟩:=z48b h3;have hc:Tryd.prog.cellsOf TPat=2:=by kernel_rfl
 have hb:Tryd.prog.bytesOf TPat=24:=by kernel_rfl
 have hr:reachBytes<1000000000000000000:=by decide
 rw[List.length_map,hb] at h2;rw[hc] at h1;exact⟨ps,h1,by omega⟩
set_option maxRecDepth 100000 in
theorem args_strs{N:Nat}{h:AHeap}{x:AV}(hp:ArgP Tryd.prog N h 12 30 x):∃ss:List Bytes,Slc N h 1 x (ss.map fun s=>[z1f s])∧ss.length<1000000000000000000∧∀s∈ss,s.length≤reachBytes:=by
 obtain⟨ss,h1,h2,h3⟩:=hp.strs Tryd.underlying30 Tryd.underlying9 (by kernel_rfl);have hb:Tryd.prog.bytesOf 9=16:=by kernel_rfl
 have hr:reachBytes<1000000000000000000:=by decide
 rw[hb] at h2;exact⟨ss,h1,by omega,h3⟩
set_option maxRecDepth 100000 in
abbrev tzI64:List Int:=[0,1,56,2,57,49,28,3,61,58,42,50,38,29,17,4,62,47,59,36,45,43,51,22,53,39,33,30,24,18,12,5,63,55,48,27,60,41,37,16,46,35,44,21,52,32,23,11,54,26,40,15,34,20,31,10,25,14,19,9,13,8,7,6]
set_option maxRecDepth 100000 in
theorem tzC_ints:tzC=tzI64.map fun z=>AV.int .u8 z:=by kernel_rfl
set_option maxRecDepth 100000 in
noncomputable def tzG:Tabs:=[(0,tzI64.map fun z=>AV.int .u8 z)]
set_option maxRecDepth 100000 in
theorem tz_of{h:AHeap}{X:List Nat}{G:Nat}(hG:0<G)(k:Keeps (z26b tzG X G) h):HasTz h:=
 ⟨k.2.2 _ _ (by show (z24c tzG).get _=_;unfold tzG z24c;rw[y1c,tzC_ints]),Nat.lt_of_lt_of_le hG k.1⟩
theorem y56{N:Nat}{h h':AHeap}{sz:Nat}{v:AV}{ls:List (List AV)}(k:Slc N h sz v ls)(t:Tch [] h h')(hN:N≤h.next):Slc h'.next h' sz v ls:=k.keep (Nat.le_trans hN t.1) fun b o hb ho=>by rw[t.2.2 b (Nat.lt_of_lt_of_le hb hN) (by simp)];exact ho
section
variable {n:Nat}{h:AHeap}{Q:ARes→AHeap→Prop}{pv:AV}{ss:List Bytes}
theorem z2f1{k42:Bytes→AHeap→R}(kp:z3b1 h [] pv ss)(hss:ss.length<1000000000000000000)(hfl:ss.flatten.length≤2000)(hk:Wp (k42 ss.flatten h) Q):
  ∀(k fu i:Nat),k<fu→i+k=ss.length→Wp (z7e pv k42 fu (ss.take i).flatten (i:Int) h) Q
 |_,0,_,hf,_=>by omega
 |0,fu+1,i,hf,hi=>by
  rw[zc6];unfold z6f;refine Wp.obind kp.1 ?_
  ((with_reducible refine Wp.lett ?_))
  refine y6 (by rw[decide_eq_false_iff_not];omega) ?_;rw[List.take_of_length_le (by omega)];exact hk
 |k+1,fu+1,i,hf,hi=>by
  have hil:i<ss.length:=by omega
  have el:(i:Int)+1=((i+1:Nat):Int):=by omega
  obtain⟨p,i1,c1⟩:=kp.2 h (Tch.refl _ _) i hil
  have e1:(ss.take (i+1)).flatten=(ss.take i).flatten++ss[i]:=by
   rw[←List.take_append_getElem hil,List.flatten_append,List.flatten_cons,List.flatten_nil,List.append_nil]
  have e2:ss.flatten=(ss.take (i+1)).flatten++(ss.drop (i+1)).flatten:=by rw[←List.flatten_append,List.take_append_drop]
  have hl2:((ss.take i).flatten++ss[i]).length≤2000:=by
   rw[←e1];have:=congrArg List.length e2;rw[List.length_append] at this;omega
  rw[List.length_append] at hl2;have A1:addS (ss.take i).flatten ss[i]=some ((ss.take i).flatten++ss[i]):=addS_val (by omega);rw[zc6];unfold z6f;refine Wp.obind kp.1 ?_
  ((with_reducible refine Wp.lett ?_))
  refine y7 (by rw[decide_eq_true_eq];omega) ?_;refine Wp.obind i1 (Wp.obind c1 (Wp.obind (z44 _) (Wp.obind A1 ?_)))
  (((with_reducible refine ye ?_ ?_ ?_);omega;omega))
  rw[el, ←e1];exact z2f1 kp hss hfl hk k fu (i+1) (by omega) (by omega)
end
theorem z404:∀(s:Bytes) (m:MS) (at_:Nat),(z1e7 m s at_).1.length≤s.length
 |[],_,_=>Nat.le_refl _
 |c::s,m,at_=>by
  have:=z404 s (z1e6 m c).2 (at_+1);rw[z1e7,List.length_cons]
  split
  ·rw [List.length_cons]
   omega
  ·omega
theorem bldSlStr(h:AHeap)(s:Bytes):z147 Tryd.prog h 30 1 [(0,z1f s)]=zaf h 9 [z1f s] 1 1:=by kernel_rfl
set_option maxRecDepth 100000 in
theorem z288(h:AHeap)(hX:h.ex=[])(hT:HasTz h)(xs:List AV)(hP:z3f8 Tryd.prog h.next h 12 [22,30] xs):∃h',Says Tryd.prog 5 xs h (.ret (.bool true)) h':=by
 obtain⟨x0,_,rfl,hp0,hP⟩:=z3a9 hP;obtain⟨x1,_,rfl,hp1,hP⟩:=z3a9 hP
 obtain rfl:=args0 hP
 obtain⟨ps,kp,hps⟩:=args_pats hp0;obtain⟨ss,ks,hss,hsl⟩:=args_strs hp1;obtain⟨n,hn,hn2⟩:∃n,18446744073709551620<n∧ss.length<n:=⟨18446744073709551621+ss.length,by omega,by omega⟩;obtain⟨D,hD⟩:∃D,2000≤D:=⟨2000,Nat.le_refl _⟩
 suffices hK:Wp (ze0 (world n (D+7)) n x0 x1 h) fun r _=>r=.ret (.bool true) by
  obtain⟨_,h',e,rfl⟩:=hK;exact⟨h',z1eb (world_ok n (D+7)) e⟩
 unfold ze0;refine Wp.callN (works_w (d:=D+6) hn (by omega) hT hX) (Wp.obind (z6 _) ?_)
 ((with_reducible refine Wp.lett ?_))
 refine y6 rfl ?_
 by_cases hM:∃ts,May n (D+4) ps ts
 ·obtain ⟨ts, hM⟩ := hM
  obtain⟨h1,mb1,ab1,S1,nbs1,e1,m1,t1,g1,g1b,hmb1,_⟩:=z496 (by omega) hM hX kp;have kp1:=y56 kp t1 (Nat.le_refl _);have hX1:h1.ex=[]:=by rw[t1.2.1,hX]
  obtain⟨h2,mb2,ab2,S2,nbs2,e2,m2,t2,g2,g2b,hmb2,_⟩:=z496 (by omega) hM hX1 kp1;have t02:=t1.trans t2;have hX2:h2.ex=[]:=by rw[t2.2.1,hX1]
  have hT2:=hT.tch t02 (by simp);have ks2:=z36e (S:=[]) (y56 ks t02 (Nat.le_refl _)) (Nat.le_refl _) (fun _ h=>nomatch h);have b1:(!((false:Bool) == (0 != (0:Int))))=false:=rfl;obtain⟨t,ht,es⟩:=sum_w (n:=n) (d:=D+6) (most:=2000) ks2 (by decide) hss hn2 hsl;have es:world n (D+6+1) 18 [x1,.int .i64 2000] h2=some (.ret (.int .i64 (t:Int)),h2):=es
  repeat(first|(with_reducible first|refine y8 (fun _ _=>?_)|refine Wp.lett ?_|(apply Wp.obind;first|exact z5 _ _|exact z6 _|exact zf1 _ _|exact zf0 _ _ _))|((with_reducible refine y6 ?_ ?_);first|(with_reducible assumption)|((with_reducible first|apply decide_eq_false|apply z15c);omega))|(with_reducible first|(apply Wp.callN;first|exact e1|exact e2|exact es)|(apply Wp.outK;exact eqMat _ _ _)|refine yd (by assumption) ?_))
  by_cases hbig:2000<t
  ·repeat (((with_reducible refine y7 ?_ ?_; apply decide_eq_true); omega))
   exact Wp.ret rfl
  ·have hfl : ss.flatten.length ≤ 2000 := by omega
   repeat(first|(with_reducible refine y8 (fun _ _=>?_))|((with_reducible refine y6 ?_ ?_;apply decide_eq_false);omega))
   rename_i k42 ek;refine z2f1 ks2 hss hfl ?_ ss.length n 0 hn2 (Nat.zero_add _);rw[ek];have hS1:∀b∈S1,h.next≤b:=g1;have m1':=m1.tch t2 (fun _ _=>by simp) (fun _ _=>by simp);have rd1:z3b1 h2 S1 x1 ss:=z36e (N:=h.next) (ks.tch t02 (Nat.le_refl _) (by simp)) t02.1 hS1;obtain⟨h3,S1',v1,e3,K1⟩:=all_ok (n:=n) (d:=D) (by omega) m1' hT2 hX2 rd1 hn2 hss (by show 0+0+_<_;omega);refine Wp.callN e3 (Wp.obind (zf1 _ _) (Wp.obind (zf0 _ _ _) (Wp.obind (z6 _) ?_)))
   have hd12:∀b∈S2,b ∉ S1:=fun b hb hm=>by
    have:=g2 b hb;have:=m1.lt b hm;omega
   have hd12b:∀b∈nbs2,b ∉ S1:=fun b hb hm=>by
    have:=g2b b hb;have:=m1.lt b hm;omega
   have m2':=m2.tch K1.tch hd12 hd12b;refine y2d (Mem.nil [] h3) (bldSlStr _ _) rfl (by rw[K1.ex];rfl) fun h4 M4=>?_;have t4:=M4.tch;have m2'':=m2'.tch t4 (fun _ _=>by simp) (fun _ _=>by simp)
   have rd2:z3b1 h4 S2 (.sl h3.next 0 1 1) [ss.flatten]:=by
    refine⟨rfl,fun H tt i hi=>?_⟩
    have hi0:i=0:=by
     have:i<1:=hi;omega
    subst hi0
    have hnS:h3.next ∉ S2:=fun hb=>by
     have:=m2'.lt _ hb;omega
    exact⟨_,rfl,y5 (M4.at0.1.tch tt M4.at0.2.1 hnS) rfl⟩
   have efl:[ss.flatten].flatten=ss.flatten:=by simp
   obtain⟨h5,S2',v2,e5,K2⟩:=all_ok (n:=n) (d:=D) (by omega) m2'' (K1.tz.tch t4 (by simp)) (by rw[t4.2.1,K1.ex]) rd2 (by show 1<n;omega) (by show 1<1000000000000000000;decide) (by rw[efl];show 0+0+_<_;omega);rw[efl] at K2;refine Wp.callN e5 (Wp.obind (zf1 _ _) (Wp.obind (zf0 _ _ _) (Wp.obind (z6 _) ?_)));have s2lt:∀b∈S2,b<h2.next:=m2.lt;have n23:h2.next≤h3.next:=K1.tch.1
   have o1:OutAt h5 v1 (z1e7 (z2c4 ts) ss.flatten 0).1:=(K1.out.tch t4 (fun _ _=>by simp)).tch K2.tch fun b hb hm=>by
    have:=(K1.ob b hb).1;have:=s2lt b hm;omega
   have K1S:∀b∈S1',b ∉ S2:=fun b hb hm=>by
    rcases K1.sub b hb with hb|hb
    ·exact hd12 b hm hb
    ·have := s2lt b hm
     omega
   have m1'':=(K1.mat.tch t4 (fun _ _=>by simp) (fun _ _=>by simp)).tch K2.tch K1S fun b hb hm=>by
    have:=m1.nlt b hb;have:=g2 b hm;omega
   have hFl:(z1e7 (z2c4 ts) ss.flatten 0).1.length <1000000:=by
    have:=z404 ss.flatten (z2c4 ts) 0;omega
   have es2:=same_w (n:=n) (d:=D+6) (by omega) o1 K2.out hFl;have eb1:=z42d (n:=n) (d:=D+6) m1'';have eb2:=z42d (n:=n) (d:=D+6) K2.mat
   repeat(with_reducible first|refine y8 (fun _ _=>?_)|refine Wp.lett ?_|(apply Wp.obind;first|exact z6 _|exact z44 _)|(refine y7 ?_ ?_;rfl)|(apply Wp.callN;first|exact es2|exact eb1|exact eb2)|refine yd (by assumption) ?_)
   refine Wp.ret ?_;rw[eqS_true.2 rfl]
 ·obtain ⟨h1, e1, t1⟩ := z497 hn (by omega) hM hX kp hps
  have kp1:=y56 kp t1 (Nat.le_refl _);have hX1:h1.ex=[]:=by rw[t1.2.1,hX]
  obtain⟨h2,e2,t2⟩:=z497 hn (by omega) hM hX1 kp1 hps;have b1:(!((true:Bool) == (2 != (0:Int))))=false:=rfl
  repeat(first|(with_reducible first|refine y8 (fun _ _=>?_)|refine Wp.lett ?_|(apply Wp.obind;first|exact z5 _ _|exact z6 _|exact zf1 _ _|exact zf0 _ _ _))|((with_reducible refine y7 ?_ ?_);first|(with_reducible rfl)|((with_reducible apply z173);omega))|((with_reducible refine y6 ?_ ?_);first|(with_reducible assumption)|((with_reducible apply z15c);omega))|(with_reducible first|(apply Wp.callN;first|exact e1|exact e2)|(apply Wp.outK;exact nilMat _)|refine yd (by assumption) ?_))
  exact Wp.ret rfl
end Go.Proofs.YtcahhjjnihipdaaDoor
