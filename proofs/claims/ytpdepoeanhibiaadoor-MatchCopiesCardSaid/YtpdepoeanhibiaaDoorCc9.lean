/- What matchCopies_proved stands on, part 9 of 10. -/
import Derived.Test.YtpdepoeanhibiaaDoorCc8
namespace Go.Proofs.YtpdepoeanhibiaaDoor
open Go.RowKit Abs
theorem bldWay(b:Nat)(z:Int):z252 Tryd.prog z208 [(0,.ptr b 0),(1,.int .i64 z)]=some [.ptr b 0,.int .i64 z]:=by kernel_rfl
theorem z43d(h:AHeap)(b:Nat)(z:Int):zdb Tryd.prog h z193 1 [(0,.agg [.ptr b 0,.int .i64 z])]=za9 h z208 [.ptr b 0,.int .i64 z] 1 2:=by kernel_rfl
structure ArmAt (h:AHeap) (ab o nb:Nat) (N:Nt) (cells:List AV) (v:AV) (l:List z186):Prop where
 row:RowH h ab z257 cells
 hab:ab<h.next
 net:cells[o]? =some (.ptr nb 0)
 val:cells[o+1]? =some v
 sl:VAt h v (z76 l) l.length
 runs:RunsAt h nb l
 kn:RowH h nb TNet (netC N)
 hnb:nb<h.next
 nd:(l.map (·.1)).Nodup
 apart:∀b∈zb0 v,b ∉ l.map (·.1)
 ab1:ab ∉ zb0 v
 ab2:ab ∉ l.map (·.1)
 nb1:nb ∉ zb0 v
 nb2:nb ∉ l.map (·.1)
theorem z244{N:Nt}{c:Nat}:∀{l:List z186} {y:z186},y∈zbb N c l→∃x∈l,y=z44a N c x
 |[],_,h=>nomatch h
 |x::l,y,h=>by
  rw[zbb] at h
  split at h
  ·obtain ⟨z, hz, e⟩ := z244 h
   exact⟨z,List.mem_cons_of_mem _ hz,e⟩
  ·rcases List.mem_cons.1 h with rfl | h
   ·exact⟨x,List.mem_cons_self,rfl⟩
   ·obtain ⟨z, hz, e⟩ := z244 h
    exact⟨z,List.mem_cons_of_mem _ hz,e⟩
section
variable {N:Nt}{n d nb ab o byte at_:Nat}{h:AHeap}{cells:List AV}{v:AV}{l:List z186}
theorem z475(hT:HasTz h)(hN:NtOk N)(hn:18446744073709551616<n)(hb:byte<256)(k:ArmAt h ab o nb N cells v l)(hne:ab≠nb)(hl:l.length<100000)(hx:∀x∈l,x.2.2<1000000000000)(ha:at_<1000000000000)(hex:zb6 z208 h.ex=false):
  ∃v' h',world n (d+4) 20 [.ptr ab o,.int .u8 (byte:Int),.int .i64 (at_:Int)] h=some (.ret (.tup [.int .i64 (z45e (z36c N byte none (l++[(h.next,(false,0),at_)]))),.bool (z36c N byte none (l++[(h.next,(false,0),at_)])).isSome]),h')∧
   ArmAt h' ab o nb N (cells.set (o+1) v') v' (zbb N byte (l++[(h.next,(false,0),at_)]))∧((∀b∈zb0 v',h.next≤b)∧zb0 v'≠[])∧Tch (ab::(zb0 v++l.map (·.1))) h h':=by
 obtain⟨k1,k2,k3,k4,k5,k6,k7,k8,k9,k10,k11,k12,k13,k14⟩:=id k
 have hlen:o+1<cells.length:=by
  apply Nat.lt_of_not_le;intro hh;rw[List.getElem?_eq_none hh] at k4
  cases k4
 suffices hK:Wp (world n (d+4) 20 [.ptr ab o,.int .u8 (byte:Int),.int .i64 (at_:Int)] h) fun r h'=>∃v',r=.ret (.tup [.int .i64 (z45e (z36c N byte none (l++[(h.next,(false,0),at_)]))),.bool (z36c N byte none (l++[(h.next,(false,0),at_)])).isSome])∧ArmAt h' ab o nb N (cells.set (o+1) v') v' (zbb N byte (l++[(h.next,(false,0),at_)]))∧((∀b∈zb0 v',h.next≤b)∧zb0 v'≠[])∧Tch (ab::(zb0 v++l.map (·.1))) h h' by
  obtain⟨_,h',e,v',rfl,k⟩:=hK;exact⟨v',h',e,k⟩
 rw[z28e];unfold zd0;have c1:=y5 k1 k4;have c2:=y5 k1 k3;obtain⟨h1,e1,M1⟩:=begin_m (n:=n) (d:=d+2) (nb:=nb) (Mem.nil [] h);refine Wp.obind (z12 _ _) (Wp.obind (z8 _ _ _) (Wp.obind c1 (Wp.obind (z12 _ _) (Wp.obind (z8 _ _ _) (Wp.obind c2 (Wp.callN e1 ?_))))));have t1:=M1.tch;have ka1:=k1.tch t1 k2 (by simp);refine Wp.chk (z174 rfl (z174 (z14a (by kernel_rfl) (y5 ka1 k4)) rfl)) ?_;refine Wp.obind (bldWay _ _) ?_;refine y27 M1 (z43d _ _ _) rfl hex fun h2 M2=>?_;have t2:=M2.tch;have ka2:=k1.tch t2 k2 (by simp);refine Wp.chk (z174 rfl (z174 (z14a (by kernel_rfl) (y5 ka2 k4)) rfl)) ?_;have kv2:=k5.tch t2 (fun b _=>by simp);obtain⟨h3,e3,kc3,hc3,t3⟩:=kv2.push M2.at0.1 rfl rfl (by omega) (by rw[M2.ex];exact hex);refine Wp.outK e3 ?_;have hle2:=t2.1;have hlab:ab<h2.next:=Nat.lt_of_lt_of_le k2 hle2;have ka3:=ka2.tch t3 hlab k11;refine Wp.obind (z12 _ _) (Wp.obind (z8 _ _ _) ?_);show Wp (Abs.obind (z17 h3 1 [AV.sl h2.next 0 (l.length+1) 2] (.ptr ab (o+1))) _) _;refine Wp.st1 ka3 hlen rfl fun h4 ka4 t4 n4=>?_;have hv4:(cells.set (o+1) (.sl h2.next 0 (l.length+1) 2))[o+1]? =some (.sl h2.next 0 (l.length+1) 2):=List.getElem?_set_self hlen;refine Wp.obind (z12 _ _) (Wp.obind (z8 _ _ _) (Wp.obind (y5 ka4 hv4) ?_));refine Wp.obind (show z153 (.sl h2.next 0 (l.length+1) 2)=some ((l.length+1:Nat):Int) from rfl) ?_;refine y14 fun k30 ek30=>?_;have hle3:=t3.1;have hids:∀x∈l,x.1<h.next:=fun x hx=>(k6 x hx).2.1
 have hidm:∀b∈l.map (·.1),b<h.next:=fun b hb=>by
  obtain⟨x,hx,rfl⟩:=List.mem_map.1 hb;exact hids x hx
 have hvlt:=k5.lt;have hr1:=M1.at0.2.1;have hr2:h.next<h2.next:=M2.at1.2.1
 -- memory from the beginning to the loop
 have t34:Tch (ab::zb0 v) h2 h4:=(t3.mono fun b hb=>.inl (List.mem_cons_of_mem _ hb)).trans (t4.mono fun b hb=>.inl (by rw[List.mem_singleton.1 hb];exact List.mem_cons_self));have t04:Tch (ab::zb0 v) h h4:=(t2.mono fun b hb=>nomatch hb).trans t34
 have hid:∀x∈l,x.1 ∉ ab::zb0 v:=by
  intro x hx hb
  rcases List.mem_cons.1 hb with hb|hb
  ·exact k12 (hb▸List.mem_map_of_mem hx)
  ·exact k10 _ hb (List.mem_map_of_mem hx)
 have runs4:=k6.tch t04 hid
 have kn4:=k7.tch t04 k8 (fun hb=>by
  rcases List.mem_cons.1 hb with hb|hb
  ·exact hne hb.symm
  ·exact k13 hb)
 have r04:RowH h4 h.next z47b (z44d nb (false,0)):=M2.at1.1.tch t34 hr2 (fun hb=>by
  rcases List.mem_cons.1 hb with hb|hb
  ·omega
  ·have := hvlt _ hb
   omega)
 have kc4:=kc3.tch t4 hc3 (fun hb=>by
  have:=List.mem_singleton.1 hb;omega)
 have hTH:HasTz h4:=hT.tch t04 (fun hb=>by
  rcases List.mem_cons.1 hb with hb|hb
  ·exact z22c hT k1 hb
  ·rcases k5 with ⟨rfl, _⟩ | ⟨c, rest, rfl, _, g, _⟩
   ·exact nomatch hb
   ·exact z22c hT g (List.mem_singleton.1 hb))
 have hw:z76 (l++[(h.next,(false,0),at_)])=z76 l++[.ptr h.next 0,.int .i64 (at_:Int)]:=by
  rw[z133];rfl
 have hS:∀b∈l.map (·.1)++[h.next],b≤h.next:=fun b hb=>by
  rcases List.mem_append.1 hb with hb|hb
  ·exact Nat.le_of_lt (hidm b hb)
  ·exact Nat.le_of_eq (List.mem_singleton.1 hb)
 have n4':h4.next=h3.next:=n4
 have inv:InLoop h4 h4 nb h2.next 0 (l.map (·.1)++[h.next]) [] (l++[(h.next,(false,0),at_)]) []:=by
  refine⟨Nat.le_refl _,rfl,?_,(fun _ hx=>nomatch hx),fun x hx=>?_,?_,fun x hx=>?_,Tch.refl _ _⟩
  ·rw [hw]
   exact kc4
  ·rcases List.mem_append.1 hx with hx | hx
   ·exact runs4 x hx
   ·rw [List.mem_singleton.1 hx]
    exact⟨r04,by show h.next<h4.next;omega,show (0:Nat)<18446744073709551616 by decide⟩
  ·rw [List.nil_append, List.map_append, List.nodup_append]
   refine⟨k9,by simp,fun a ha b hb e=>?_⟩;have h1:=hidm a ha;have h2:b=h.next:=by simpa using hb
   omega
  ·rw [List.nil_append] at hx
   rcases List.mem_append.1 hx with hx|hx
   ·exact List.mem_append_left _ (List.mem_map_of_mem hx)
   ·rw [List.mem_singleton.1 hx]
    exact List.mem_append_right _ (List.mem_singleton.2 rfl)
 have habS:ab ∉ l.map (·.1)++[h.next]:=fun hb=>by
  rcases List.mem_append.1 hb with hb|hb
  ·exact k12 hb
  ·have := List.mem_singleton.1 hb
   omega
 have hnbS:nb ∉ l.map (·.1)++[h.next]:=fun hb=>by
  rcases List.mem_append.1 hb with hb|hb
  ·exact k14 hb
  ·have := List.mem_singleton.1 hb
   omega
 have hcS:h2.next ∉ l.map (·.1)++[h.next]:=fun hb=>by
  have:=hS _ hb;omega
 have hTS:0 ∉ h2.next::(l.map (·.1)++[h.next]):=fun hb=>by
  rcases List.mem_cons.1 hb with hb|hb
  ·exact z22c hTH kc4 hb
  ·rcases List.mem_append.1 hb with hb | hb
   ·obtain ⟨x, hx, e⟩ := List.mem_map.1 hb
    exact z22c hT (k6 x hx).1 e.symm
   ·exact z22c hTH r04 (List.mem_singleton.1 hb)
 refine z441 (n:=n) (d:=d) (h0:=h4) (c:=h2.next) (o:=o) (L:=l.length+1) (S:=l.map (·.1)++[h.next]) hTH hN hn hb (by omega) kn4 (by omega) hnbS (by omega) ka4 (by omega) habS (by omega) hv4 hcS (by omega) hTS (l++[(h.next,(false,0),at_)]) 0 n [] [] none h4 (by rw[List.length_append,List.length_singleton];omega) (by rw[List.length_append,List.length_singleton];omega) (fun x hx'=>by
  rcases List.mem_append.1 hx' with hx'|hx'
  ·exact hx x hx'
  ·rw [List.mem_singleton.1 hx']
   exact ha) inv fun H G' j=>?_
 rw[List.nil_append] at j ⊢;obtain⟨j1,j2,j3,j4,j5,j6,j7,j8⟩:=j;rw[ek30]
 have kaH:=ka4.tch j8 (by omega) (fun hb=>by
  rcases List.mem_cons.1 hb with hb|hb
  ·omega
  ·exact habS hb)
 have hnH:=j8.1;have kvH:VAt H (.sl h2.next 0 (l.length+1) 2) (z76 (zbb N byte (l++[(h.next,(false,0),at_)]))++G') (l.length+1):=.inr ⟨h2.next,[],rfl,by rw[List.length_append,z83,j2];omega,by rw[z76,List.append_nil] at j3;rw[List.append_nil];exact j3,by omega⟩
 obtain⟨v',h',e5,kx1,kx2,kx3,kx4,kx5⟩:=z1f4 (n:=n) (d:=d+2) (live:=(zbb N byte (l++[(h.next,(false,0),at_)])).length) kaH hv4 (by omega) kvH j1 (fun hb=>by
  have:=List.mem_singleton.1 hb;omega)
 refine Wp.callN e5 ?_;rw[List.set_set] at kx1;rw[List.take_left' (z83 _)] at kx2;have hset:(cells.set (o+1) v')[o+1]? =some v':=List.getElem?_set_self hlen
 have hbv:∀b∈zb0 v',b=h2.next:=fun b hb=>by
  rw[kx3] at hb;exact List.mem_singleton.1 hb
 have hks:∀x∈zbb N byte (l++[(h.next,(false,0),at_)]),x.1∈l.map (·.1)++[h.next]:=fun x hx=>j7 x (List.mem_append_left _ hx)
 have hkm:∀b∈(zbb N byte (l++[(h.next,(false,0),at_)])).map (·.1),b∈l.map (·.1)++[h.next]:=fun b hb=>by
  obtain⟨x,hx,rfl⟩:=List.mem_map.1 hb;exact hks x hx
 have kb3:zb0 (.sl h2.next 0 (l.length+1) 2)=[h2.next]:=rfl;rw[kb3] at kx5
 have tfin:Tch (ab::h2.next::(l.map (·.1)++[h.next])) h4 h':=(j8.mono fun b hb=>.inl (List.mem_cons_of_mem _ hb)).trans (kx5.mono fun b hb=>.inl (by
  rcases List.mem_cons.1 hb with hb|hb
  ·rw [hb]
   exact List.mem_cons_self
  ·rw [List.mem_singleton.1 hb]
   exact List.mem_cons_of_mem _ List.mem_cons_self))
 refine Wp.ret ⟨v',rfl,⟨kx1,by omega,?_,hset,kx2,?_,?_,by omega,?_,?_,?_,?_,?_,?_⟩,⟨fun b hb=>by rw[hbv b hb];omega,by rw[kx3];exact List.cons_ne_nil _ _⟩,?_⟩
 ·rw [List.getElem?_set_ne (by omega)]
  exact k3
 ·refine j4.tch kx5 fun x hx hb => ?_
  rcases List.mem_cons.1 hb with hb|hb
  ·exact habS (hb▸hks x hx)
  ·exact hcS (List.mem_singleton.1 hb▸hks x hx)
 ·refine kn4.tch tfin (by omega) fun hb => ?_
  rcases List.mem_cons.1 hb with hb|hb
  ·exact hne hb.symm
  ·rcases List.mem_cons.1 hb with hb | hb
   ·omega
   ·exact hnbS hb
 ·rw [List.append_nil] at j6
  exact j6
 ·intro b hb hm
  rw[hbv b hb] at hm;exact hcS (hkm _ hm)
 ·intro hb
  have:=hbv _ hb;omega
 ·exact fun hb=>habS (hkm _ hb)
 ·intro hb
  have:=hbv _ hb;omega
 ·exact fun hb=>hnbS (hkm _ hb)
 ·refine (t04.mono fun b hb => .inl ?_).trans' tfin fun b hb => ?_
  ·rcases List.mem_cons.1 hb with hb | hb
   ·rw [hb]
    exact List.mem_cons_self
   ·exact List.mem_cons_of_mem _ (List.mem_append_left _ hb)
  ·rcases List.mem_cons.1 hb with hb | hb
   ·rw [hb]
    exact .inl List.mem_cons_self
   ·rcases List.mem_cons.1 hb with hb | hb
    ·right
     omega
    ·rcases List.mem_append.1 hb with hb | hb
     ·exact .inl (List.mem_cons_of_mem _ (List.mem_append_right _ hb))
     ·right
      rw[List.mem_singleton.1 hb];exact Nat.le_refl _
end
abbrev z36d:Nat:=26
structure ArmT where
 nb:Nat
 N:Nt
 v:AV
 l:List z186
def z364(a:ArmT):List Nat:=zb0 a.v++a.l.map (·.1)
def z57:List ArmT→List Nat
 |[]=>[]
 |a::r=>z364 a++z57 r
noncomputable def zac:List ArmT→List AV
 |[]=>[]
 |a::r=>[.ptr a.nb 0,a.v]++zac r
theorem z170:∀az:List ArmT,(zac az).length=2*az.length
 |[]=>rfl
 |a::r=>by
  have:=z170 r;rw[zac,List.length_append,this];show 2+2*r.length=2*(r.length+1);omega
theorem z171:∀a b:List ArmT,zac (a++b)=zac a++zac b
 |[],_=>rfl
 |x::a,b=>by rw[List.cons_append,zac,zac,z171 a b,List.append_assoc]
theorem z53{b:Nat}:∀{az:List ArmT},b∈z57 az↔∃a∈az,b∈z364 a
 |[]=>by simp[z57]
 |a::r=>by
  rw[z57,List.mem_append,z53]
  simp
structure ArmsAt (h:AHeap) (ab:Nat) (az:List ArmT):Prop where
 row:RowH h ab z257 (zac az)
 hab:ab<h.next
 net:∀a∈az,NtOk a.N∧RowH h a.nb TNet (netC a.N)∧a.nb<h.next
 sl:∀a∈az,VAt h a.v (z76 a.l) a.l.length
 runs:∀a∈az,RunsAt h a.nb a.l
 nd:∀a∈az,(a.l.map (·.1)).Nodup
 apart:∀a∈az,∀b∈zb0 a.v,b ∉ a.l.map (·.1)
 own:∃f:Nat→Nat,f ab=0∧(∀a∈az,f a.nb=1)∧∀(i:Nat) (a:ArmT),az[i]? =some a→∀b∈z364 a,f b=i+2
section
variable {h h':AHeap}{ab:Nat}{az P R:List ArmT}{a:ArmT}
theorem ArmsAt.lt(k:ArmsAt h ab az):∀b∈z57 az,b<h.next:=by
 intro b hb;obtain⟨a,ha,hb⟩:=z53.1 hb
 rcases List.mem_append.1 hb with hb|hb
 ·exact(k.sl a ha).lt b hb
 ·obtain ⟨x, hx, rfl⟩ := List.mem_map.1 hb
  exact(k.runs a ha x hx).2.1
theorem ArmsAt.tch{S:List Nat}(k:ArmsAt h ab az)(t:Tch S h h')(h1:ab ∉ S)(h2:∀a∈az,a.nb ∉ S)(h3:∀b∈z57 az,b ∉ S):ArmsAt h' ab az:=by
 obtain⟨k1,k2,k3,k4,k5,k6,k7,k8⟩:=k;exact⟨k1.tch t k2 h1,Nat.lt_of_lt_of_le k2 t.1,fun a ha=>⟨(k3 a ha).1,(k3 a ha).2.1.tch t (k3 a ha).2.2 (h2 a ha),Nat.lt_of_lt_of_le (k3 a ha).2.2 t.1⟩,fun a ha=>(k4 a ha).tch t (fun b hb=>h3 b (z53.2 ⟨a,ha,List.mem_append_left _ hb⟩)),fun a ha=>(k5 a ha).tch t (fun x hx=>h3 x.1 (z53.2 ⟨a,ha,List.mem_append_right _ (List.mem_map_of_mem hx)⟩)),k6,k7,k8⟩
theorem ArmsAt.at(k:ArmsAt h ab (P++a::R)):ArmAt h ab (0+P.length*2) a.nb a.N (zac (P++a::R)) a.v a.l∧ab≠a.nb:=by
 obtain⟨f,f1,f2,f3⟩:=k.own;have ha:a∈P++a::R:=by simp
 have hi:(P++a::R)[P.length]? =some a:=by simp
 have f4:=f3 _ _ hi;have f5:=f2 a ha;have e:zac (P++a::R)=zac P++([.ptr a.nb 0,a.v]++zac R):=by rw[z171,zac]
 have hP:=z170 P;have bv:∀{b},b∈zb0 a.v→f b=P.length+2:=fun hb=>f4 _ (List.mem_append_left _ hb);have bl:∀{b},b∈a.l.map (·.1)→f b=P.length+2:=fun hb=>f4 _ (List.mem_append_right _ hb);refine⟨⟨k.row,k.hab,?_,?_,k.sl a ha,k.runs a ha,(k.net a ha).2.1,(k.net a ha).2.2,k.nd a ha,k.apart a ha,fun hb=>?_,fun hb=>?_,fun hb=>?_,fun hb=>?_⟩,fun he=>?_⟩
 ·rw [e, List.getElem?_append_right (by omega), show 0 + P.length * 2 - (zac P).length = 0 by omega]
  rfl
 ·rw [e, List.getElem?_append_right (by omega), show 0 + P.length * 2 + 1 - (zac P).length = 1 by omega]
  rfl
 ·have := bv hb
  omega
 ·have := bl hb
  omega
 ·have := bv hb
  omega
 ·have := bl hb
  omega
 ·rw [he] at f1
  omega
theorem armsC_set{v':AV}:(zac (P++a::R)).set (0+P.length*2+1) v'=zac (P++{a with v:=v'}::R):=by
 have hP:=z170 P;rw[z171,z171,zac,zac,List.set_append_right _ _ (by omega),show 0+P.length*2+1 - (zac P).length=1 by omega];rfl
theorem ArmsAt.step{v':AV}{l':List z186}(k:ArmsAt h ab (P++a::R))(k':ArmAt h' ab (0+P.length*2) a.nb a.N ((zac (P++a::R)).set (0+P.length*2+1) v') v' l')(hv:∀b∈zb0 v',b∈zb0 a.v∨h.next≤b)(hl:∀b∈l'.map (·.1),b∈a.l.map (·.1)∨h.next≤b)(t:Tch (ab::z364 a) h h'):
  ArmsAt h' ab (P++{a with v:=v',l:=l'}::R):=by
 obtain⟨f,f1,f2,f3⟩:=k.own;have ha:a∈P++a::R:=by simp
 have hi:(P++a::R)[P.length]? =some a:=by simp
 have f4:=f3 _ _ hi
 have hS:∀{b},b∈ab::z364 a→f b=0∨f b=P.length+2:=fun hb=>by
  rcases List.mem_cons.1 hb with hb|hb
  ·rw [hb]
   exact .inl f1
  ·exact .inr (f4 _ hb)
 have others:∀y∈P++{a with v:=v',l:=l'}::R,y={a with v:=v',l:=l'}∨(y∈P++a::R∧∀b∈z364 y,b ∉ ab::z364 a):=by
  intro y hy
  have place:∀(j:Nat),(P++a::R)[j]? =some y→j≠P.length→(y∈P++a::R∧∀b∈z364 y,b ∉ ab::z364 a):=fun j hj hne=>⟨List.mem_of_getElem? hj,fun b hb hm=>by
   have:=f3 _ _ hj b hb
   rcases hS hm with h|h<;>omega⟩
  rcases List.mem_append.1 hy with hy|hy
  ·obtain ⟨j, hj⟩ := List.getElem?_of_mem hy
   have hjl:j<P.length:=by
    apply Nat.lt_of_not_le;intro hh;rw[List.getElem?_eq_none hh] at hj;cases hj
   exact .inr (place j (by rw[List.getElem?_append_left hjl];exact hj) (by omega))
  ·rcases List.mem_cons.1 hy with hy | hy
   ·exact .inl hy
   ·obtain ⟨j, hj⟩ := List.getElem?_of_mem hy
    exact .inr (place (P.length+(j+1)) (by rw[List.getElem?_append_right (by omega),Nat.add_sub_cancel_left,List.getElem?_cons_succ];exact hj) (by omega))
 have nets:∀y∈P++a::R,y.nb ∉ ab::z364 a:=fun y hy hm=>by
  have:=f2 y hy
  rcases hS hm with h|h<;>omega
 have nbs:∀y∈P++{a with v:=v',l:=l'}::R,∃z∈P++a::R,y.nb=z.nb∧y.N=z.N:=by
  intro y hy
  rcases others y hy with rfl|⟨h1,_⟩
  ·exact⟨a,ha,rfl,rfl⟩
  ·exact⟨y,h1,rfl,rfl⟩
 refine⟨?_,k'.hab,fun y hy=>?_,fun y hy=>?_,fun y hy=>?_,fun y hy=>?_,fun y hy=>?_,fun b=>if b<h.next then f b else P.length+2,?_,fun y hy=>?_,fun i y hy b hb=>?_⟩
 ·have := k'.row
  rw[armsC_set] at this;rw[z171,zac] at this ⊢;exact this
 ·obtain ⟨z, hz, e1, e2⟩ := nbs y hy
  rw[e1,e2];exact⟨(k.net z hz).1,(k.net z hz).2.1.tch t (k.net z hz).2.2 (nets z hz),Nat.lt_of_lt_of_le (k.net z hz).2.2 t.1⟩
 ·rcases others y hy with rfl | ⟨h1, h2⟩
  ·exact k'.sl
  ·exact(k.sl y h1).tch t fun b hb=>h2 b (List.mem_append_left _ hb)
 ·rcases others y hy with rfl | ⟨h1, h2⟩
  ·exact k'.runs
  ·exact(k.runs y h1).tch t fun x hx=>h2 _ (List.mem_append_right _ (List.mem_map_of_mem hx))
 ·rcases others y hy with rfl | ⟨h1, h2⟩
  ·exact k'.nd
  ·exact k.nd y h1
 ·rcases others y hy with rfl | ⟨h1, h2⟩
  ·exact k'.apart
  ·exact k.apart y h1
 ·show (if ab < h.next then f ab else P.length + 2) = 0
  rw[if_pos k.hab,f1]
 ·obtain ⟨z, hz, e1, _⟩ := nbs y hy
  rw[e1];show (if z.nb<h.next then f z.nb else P.length+2)=1;rw[if_pos (k.net z hz).2.2,f2 z hz]
 ·show (if b < h.next then f b else P.length + 2) = i + 2
  by_cases hiP:i=P.length
  ·subst hiP
   have e:y={a with v:=v',l:=l'}:=by simpa using hy.symm
   subst e
   split
   ·rename_i hlt
    rcases List.mem_append.1 hb with hb|hb
    ·rcases hv b hb with hb | hb
     ·exact f4 b (List.mem_append_left _ hb)
     ·omega
    ·rcases hl b hb with hb | hb
     ·exact f4 b (List.mem_append_right _ hb)
     ·omega
   ·rfl
  ·have hy2 : (P ++ a :: R)[i]? = some y := by
    by_cases hlt:i<P.length
    ·rw [List.getElem?_append_left hlt] at hy ⊢
     exact hy
    ·rw [List.getElem?_append_right (by omega)] at hy ⊢
     obtain⟨j,hj⟩:∃j,i - P.length=j+1:=⟨i - P.length - 1,by omega⟩;rw[hj,List.getElem?_cons_succ] at hy ⊢;exact hy
   have hbl:b<h.next:=k.lt b (z53.2 ⟨y,List.mem_of_getElem? hy2,hb⟩);rw[if_pos hbl];exact f3 _ _ hy2 b hb
end
def z2a5(B:Nat)(az:List ArmT):Prop:=∀a∈az,a.l.length≤B∧∀x∈a.l,x.2.2<B
abbrev WayW:=(Bool×Nat)×Nat
def z4b5(N:Nt)(c:Nat):List WayW→List WayW
 |[]=>[]
 |x::l=>if z3fe N (stepN N x.1 c)=true then z4b5 N c l else (stepN N x.1 c,x.2)::z4b5 N c l
def accW(N:Nt)(c:Nat):Option Nat→WayW→Option Nat
 |some f,_=>some f
 |none,x=>if z278 N (stepN N x.1 c)=true then some x.2 else none
def hitW(N:Nt)(c:Nat)(a:Option Nat)(l:List WayW):Option Nat:=l.foldl (accW N c) a
theorem z4b4{N:Nt}{c:Nat}:∀l:List z186,(zbb N c l).map (·.2)=z4b5 N c (l.map (·.2))
 |[]=>rfl
 |x::l=>by
  rw[zbb,List.map_cons,z4b5, ←z4b4 l]
  split<;>rfl
theorem z39d{N:Nt}{c:Nat}:∀l:List z186,(zbb N c l).length≤l.length
 |[]=>Nat.le_refl _
 |x::l=>by
  have:=z39d (N:=N) (c:=c) l;rw[zbb,List.length_cons]
  split
  ·omega
  ·rw [List.length_cons]
   omega
theorem hitX_W{N:Nt}{c:Nat}:∀(l:List z186) (a:Option Nat),z36c N c a l=hitW N c a (l.map (·.2))
 |[],_=>rfl
 |x::l,a=>by
  show z36c N c (accX N c a x) l=hitW N c (accW N c a x.2) (l.map (·.2));rw[hitX_W l]
  cases a<;>rfl
abbrev z36a:=Nt×List WayW
def zf1(a:ArmT):z36a:=(a.N,a.l.map (·.2))
def z4a5(c at_:Nat)(a:z36a):z36a:=(a.1,z4b5 a.1 c (a.2++[((false,0),at_)]))
def hitA(c at_:Nat)(a:z36a):Option Nat:=hitW a.1 c none (a.2++[((false,0),at_)])
def z5d(c at_:Nat):List z36a→Option (Nat×Nat)×List z36a
 |[]=>(none,[])
 |a::r=>match hitA c at_ a with
  |some f=>(some (0,f),z4a5 c at_ a::r)
  |none=>((z5d c at_ r).1.map (fun z=>(z.1+1,z.2)),z4a5 c at_ a::(z5d c at_ r).2)
noncomputable def z45d(i at_:Nat):Option (Nat×Nat)→List AV
 |some z=>[.int .i64 ((i+z.1:Nat):Int),.int .i64 (z.2:Int),.int .i64 ((at_:Int)+1)]
 |none=>[.int .i64 0,.int .i64 0,.int .i64 0]
section
variable {n d ab byte at_ L hb:Nat}{h:AHeap}{Q:ARes→AHeap→Prop}{k8:AHeap→R}
set_option maxHeartbeats 4000000 in
theorem z1d4(hn:18446744073709551616<n)(hby:byte<256)(ha:at_<90000)(hL:L<1000):
  ∀(R P:List ArmT) (fu:Nat) (H:AHeap),R.length<fu→P.length+R.length=L→ArmsAt H ab (P++R)→z2a5 at_ R→HasTz H→zb6 z208 H.ex=false→RowH H h.next z36d [.int .i64 0,.int .i64 0,.int .i64 0]→h.next<H.next→h.next≠ab→(∀a∈P++R,a.nb≠h.next)→h.next ∉ z57 (P++R)→
   (∀(H':AHeap) (R':List ArmT),Tch (ab::z57 (P++R)) H H'→ArmsAt H' ab (P++R')→z2a5 (at_+1) R'→R'.map zf1=(z5d byte at_ (R.map zf1)).2→R'.map (·.nb)=R.map (·.nb)→(∀b∈z57 (P++R'),b∈z57 (P++R)∨H.next≤b)→(z5d byte at_ (R.map zf1)).1=none→(∀a∈R',zb0 a.v≠[])→Wp (k8 H') Q)→
   (∀(H':AHeap) (R':List ArmT) (z:Nat×Nat),Tch (h.next::ab::z57 (P++R)) H H'→ArmsAt H' ab (P++R')→z2a5 (at_+1) R'→R'.map zf1=(z5d byte at_ (R.map zf1)).2→R'.map (·.nb)=R.map (·.nb)→(∀b∈z57 (P++R'),b∈z57 (P++R)∨H.next≤b)→(z5d byte at_ (R.map zf1)).1=some z→Q (.ret (.tup [.agg (z45d P.length at_ (some z)),.bool true])) H')→
   Wp (z11a (world n (d+4)) (.sl ab 0 L 2) (byte:Int) (at_:Int) h (L:Int) k8 fu (P.length:Int) H) Q
 |_,_,0,_,hf,_,_,_,_,_,_,_,_,_,_,_,_=>by omega
 |[],P,fu+1,H,hf,hPL,k,hB,hT,hx,kh,hh,hab,hnb,hbl,hk,hq=>by
  have hPl:P.length=L:=hPL;rw[z168];unfold zf7
  ((with_reducible refine Wp.lett ?_))
  refine y7 (by rw[decide_eq_false_iff_not];omega) ?_;exact hk H [] (Tch.refl _ _) k (fun a ha=>nomatch ha) rfl rfl (fun b hb=>.inl hb) rfl (fun _ h=>nomatch h)
 |a::R,P,fu+1,H,hf,hPL,k,hB,hT,hx,kh,hh,hab,hnb,hbl,hk,hq=>by
  rw[List.length_cons] at hf hPL;have hPl:P.length<L:=by omega
  have hBa:=hB a List.mem_cons_self;obtain⟨ka,hne⟩:=k.at
  obtain⟨v',H1,e1,k1,⟨kv1,kne⟩,t1⟩:=z475 (n:=n) (d:=d) (byte:=byte) (at_:=at_) hT (k.net a (by simp)).1 hn hby ka hne (by omega) (fun x hx=>by
   have:=hBa.2 x hx;omega) (by omega) hx
  have hl1:∀b∈(zbb a.N byte (a.l++[(H.next,(false,0),at_)])).map (·.1),b∈a.l.map (·.1)∨H.next≤b:=by
   intro b hb;obtain⟨y,hy,rfl⟩:=List.mem_map.1 hb;obtain⟨x,hx,rfl⟩:=z244 hy;show x.1∈_∨H.next≤x.1
   rcases List.mem_append.1 hx with hx|hx
   ·exact .inl (List.mem_map_of_mem hx)
   ·rw [List.mem_singleton.1 hx]
    exact .inr (Nat.le_refl _)
  have kk:=k.step k1 (fun b hb=>.inr (kv1 b hb)) hl1 t1
  have hr:z36c a.N byte none (a.l++[(H.next,(false,0),at_)])=hitA byte at_ (zf1 a):=by
   rw[hitX_W,List.map_append];rfl
  have ea:zf1 {a with v:=v',l:=zbb a.N byte (a.l++[(H.next,(false,0),at_)])}=z4a5 byte at_ (zf1 a):=by
   show (a.N,(zbb a.N byte (a.l++[(H.next,(false,0),at_)])).map (·.2))=_;rw[z4b4,List.map_append];rfl
  have hB1:(zbb a.N byte (a.l++[(H.next,(false,0),at_)])).length≤at_+1∧∀x∈zbb a.N byte (a.l++[(H.next,(false,0),at_)]),x.2.2<at_+1:=by
   refine⟨Nat.le_trans (z39d _) (by rw[List.length_append,List.length_singleton];omega),fun y hy=>?_⟩;obtain⟨x,hx,rfl⟩:=z244 hy;show x.2.2<at_+1
   rcases List.mem_append.1 hx with hx|hx
   ·have := hBa.2 x hx
    omega
   ·rw [List.mem_singleton.1 hx]
    exact Nat.lt_succ_self _
  have sub1:∀b∈ab::z364 a,b∈ab::z57 (P++a::R):=fun b hb=>by
   rcases List.mem_cons.1 hb with hb|hb
   ·rw [hb]
    exact List.mem_cons_self
   ·exact List.mem_cons_of_mem _ (z53.2 ⟨a,by simp,hb⟩)
  have sub2:∀b∈z57 (P++{a with v:=v',l:=zbb a.N byte (a.l++[(H.next,(false,0),at_)])}::R),b∈z57 (P++a::R)∨H.next≤b:=by
   intro b hb;obtain⟨y,hy,hb⟩:=z53.1 hb
   rcases List.mem_append.1 hy with hy|hy
   ·exact .inl (z53.2 ⟨y,List.mem_append_left _ hy,hb⟩)
   rcases List.mem_cons.1 hy with rfl|hy
   ·rcases List.mem_append.1 hb with hb | hb
    ·exact .inr (kv1 b hb)
    ·rcases hl1 b hb with hb | hb
     ·exact .inl (z53.2 ⟨a,by simp,List.mem_append_right _ hb⟩)
     ·exact .inr hb
   ·exact .inl (z53.2 ⟨y,by simp[hy],hb⟩)
  have t1':Tch (ab::z57 (P++a::R)) H H1:=t1.mono fun b hb=>.inl (sub1 b hb)
  have hhS:h.next ∉ ab::z57 (P++a::R):=fun hb=>by
   rcases List.mem_cons.1 hb with hb|hb
   ·exact hab hb
   ·exact hbl hb
  have kh1:=kh.tch t1' hh hhS
  have hTz1:HasTz H1:=hT.tch t1' (fun hb=>by
   rcases List.mem_cons.1 hb with hb|hb
   ·exact z22c hT k.row hb
   ·obtain ⟨y, hy, hb⟩ := z53.1 hb
    rcases List.mem_append.1 hb with hb|hb
    ·rcases k.sl y hy with ⟨e, _⟩ | ⟨c, rest, e, _, g, _⟩
     ·rw [e] at hb
      exact nomatch hb
     ·rw [e] at hb
      exact z22c hT g (List.mem_singleton.1 hb)
    ·obtain ⟨x, hx, e⟩ := List.mem_map.1 hb
     exact z22c hT (k.runs y hy x hx).1 e.symm)
  have hx1:zb6 z208 H1.ex=false:=by rw[t1.2.1];exact hx
  have i1:=z1dc (b:=ab) hPl;have el:(P.length:Int)+1=((P.length+1:Nat):Int):=by omega
  rw[z168];unfold zf7
  ((with_reducible refine Wp.lett ?_))
  refine y8 (by rw[decide_eq_true_eq];omega) ?_;refine Wp.obind i1 ?_;refine Wp.callN e1 ?_;refine Wp.obind (zd9 _ _) (Wp.obind (z5 _ _) (Wp.obind (zd8 _ _ _) (Wp.obind (z6 _) ?_)));rw[hr];have hh1:h.next<H1.next:=Nat.lt_of_lt_of_le hh t1.1;cases hz:hitA byte at_ (zf1 a) with
  |some f=>
   refine y8 rfl ?_
   (((with_reducible refine yf ?_ ?_ ?_);omega;omega))
   rw[z10];refine Wp.stAll kh1 rfl rfl rfl fun H2 k2 t2 n2=>?_;refine Wp.obind (RowH.ldAll k2 rfl) ?_;refine Wp.ret ?_
   have e9:z5d byte at_ ((a::R).map zf1)=(some (0,f),z4a5 byte at_ (zf1 a)::R.map zf1):=by
    rw[List.map_cons,z5d,hz]
   have:=hq H2 ({a with v:=v',l:=zbb a.N byte (a.l++[(H.next,(false,0),at_)])}::R) (0,f) ((t1'.mono fun b hb=>.inl (List.mem_cons_of_mem _ hb)).trans (t2.mono fun b hb=>.inl (by rw[List.mem_singleton.1 hb];exact List.mem_cons_self))) (kk.tch t2 (by simpa using hab.symm) (fun y hy hm=>?_) (fun b hb hm=>?_)) (fun y hy=>?_) (by rw[e9,List.map_cons,ea]) rfl sub2 (by rw[e9])
   ·exact this
   ·obtain rfl | hy : y = { a with v := v', l := zbb a.N byte (a.l ++ [(H.next, (false, 0), at_)]) } ∨ y ∈ P ++ a :: R := by
     rcases List.mem_append.1 hy with hy|hy
     ·exact .inr (List.mem_append_left _ hy)
     rcases List.mem_cons.1 hy with hy|hy
     ·exact .inl hy
     ·exact .inr (by simp[hy])
    ·exact hnb a (by simp) (List.mem_singleton.1 hm)
    ·exact hnb y hy (List.mem_singleton.1 hm)
   ·have hm := List.mem_singleton.1 hm
    subst hm
    rcases sub2 _ hb with hb|hb
    ·exact hbl hb
    ·omega
   ·rcases List.mem_cons.1 hy with rfl | hy
    ·exact hB1
    ·have := hB y (List.mem_cons_of_mem _ hy)
     exact⟨by omega,fun x hx=>Nat.lt_succ_of_lt (this.2 x hx)⟩
  |none=>
   refine y7 rfl ?_
   (((with_reducible refine yf ?_ ?_ ?_);omega;omega))
   rw[el]
   have e9:z5d byte at_ ((a::R).map zf1)=((z5d byte at_ (R.map zf1)).1.map (fun z=>(z.1+1,z.2)),z4a5 byte at_ (zf1 a)::(z5d byte at_ (R.map zf1)).2):=by
    rw[List.map_cons,z5d,hz]
   have hsh:P++{a with v:=v',l:=zbb a.N byte (a.l++[(H.next,(false,0),at_)])}::R=(P++[{a with v:=v',l:=zbb a.N byte (a.l++[(H.next,(false,0),at_)])}])++R:=by simp
   rw[hsh] at kk sub2;have hPL1:(P++[{a with v:=v',l:=zbb a.N byte (a.l++[(H.next,(false,0),at_)])}]).length=P.length+1:=by rw[List.length_append,List.length_singleton]
   rw[←hPL1]
   have trS:∀b∈ab::z57 ((P++[{a with v:=v',l:=zbb a.N byte (a.l++[(H.next,(false,0),at_)])}])++R),b∈ab::z57 (P++a::R)∨H.next≤b:=fun b hb=>by
    rcases List.mem_cons.1 hb with hb|hb
    ·rw [hb]
     exact .inl List.mem_cons_self
    ·exact(sub2 b hb).imp (fun h=>List.mem_cons_of_mem _ h) id
   have reas:∀R':List ArmT,(P++[{a with v:=v',l:=zbb a.N byte (a.l++[(H.next,(false,0),at_)])}])++R'=P++{a with v:=v',l:=zbb a.N byte (a.l++[(H.next,(false,0),at_)])}::R':=fun R'=>by simp
   have hB2:∀{R':List ArmT},z2a5 (at_+1) R'→z2a5 (at_+1) ({a with v:=v',l:=zbb a.N byte (a.l++[(H.next,(false,0),at_)])}::R'):=fun hR y hy=>by
    rcases List.mem_cons.1 hy with rfl|hy
    ·exact hB1
    ·exact hR y hy
   have sub3:∀{R':List ArmT},(∀b∈z57 ((P++[{a with v:=v',l:=zbb a.N byte (a.l++[(H.next,(false,0),at_)])}])++R'),b∈z57 ((P++[{a with v:=v',l:=zbb a.N byte (a.l++[(H.next,(false,0),at_)])}])++R)∨H1.next≤b)→∀b∈z57 (P++{a with v:=v',l:=zbb a.N byte (a.l++[(H.next,(false,0),at_)])}::R'),b∈z57 (P++a::R)∨H.next≤b:=fun hR b hb=>by
    rw[←reas] at hb
    rcases hR b hb with hb|hb
    ·exact sub2 b hb
    ·exact .inr (Nat.le_trans t1.1 hb)
   refine z1d4 hn hby ha hL R _ fu H1 (by omega) (by omega) kk (fun y hy=>hB y (List.mem_cons_of_mem _ hy)) hTz1 hx1 kh1 hh1 hab (fun y hy=>?_) (fun hb=>?_) (fun H' R' t k' b' e' m' s' z' w'=>?_) (fun H' R' z t k' b' e' m' s' z'=>?_)
   ·rcases List.mem_append.1 hy with hy | hy
    ·rcases List.mem_append.1 hy with hy | hy
     ·exact hnb y (List.mem_append_left _ hy)
     ·rw [List.mem_singleton.1 hy]
      exact hnb a (by simp)
    ·exact hnb y (by simp[hy])
   ·rcases sub2 _ hb with hb | hb
    ·exact hbl hb
    ·omega
   ·refine hk H' ({a with v:=v',l:=zbb a.N byte (a.l++[(H.next,(false,0),at_)])}::R') (t1'.trans' t trS) (by rw[←reas];exact k') (hB2 b') (by rw[e9,List.map_cons,ea,e']) (by rw[List.map_cons,List.map_cons,m']) (sub3 s') (by rw[e9,z'];rfl) (fun y hy=>by
     rcases List.mem_cons.1 hy with rfl|hy
     ·exact kne
     ·exact w' y hy)
   ·have := hq H' ({ a with v := v', l := zbb a.N byte (a.l ++ [(H.next, (false, 0), at_)]) } :: R') (z.1 + 1, z.2) ((t1'.mono fun b hb => .inl (List.mem_cons_of_mem _ hb)).trans' t (fun b hb => by
     rcases List.mem_cons.1 hb with hb|hb
     ·rw [hb]
      exact .inl List.mem_cons_self
     ·exact(trS b hb).imp (fun h=>List.mem_cons_of_mem _ h) id)) (by rw[←reas];exact k') (hB2 b') (by rw[e9,List.map_cons,ea,e']) (by rw[List.map_cons,List.map_cons,m']) (sub3 s') (by rw[e9,z'];rfl)
    rw[hPL1]
    have eh:z45d (P.length+1) at_ (some z)=z45d P.length at_ (some (z.1+1,z.2)):=by
     show [AV.int .i64 ((P.length+1+z.1:Nat):Int),_,_]=[AV.int .i64 ((P.length+(z.1+1):Nat):Int),_,_];rw[show P.length+1+z.1=P.length+(z.1+1) by omega]
    rw[eh];exact this
end
abbrev z2ff:Nat:=46
abbrev TPat:Nat:=41
section
variable {n d ab byte at_ L:Nat}{h:AHeap}{az:List ArmT}
theorem ArmsAt.tz(k:ArmsAt h ab az)(hT:HasTz h):0 ∉ ab::z57 az:=fun hb=>by
 rcases List.mem_cons.1 hb with hb|hb
 ·exact z22c hT k.row hb
 ·obtain ⟨y, hy, hb⟩ := z53.1 hb
  rcases List.mem_append.1 hb with hb|hb
  ·rcases k.sl y hy with ⟨e, _⟩ | ⟨c, rest, e, _, g, _⟩
   ·rw [e] at hb
    exact nomatch hb
   ·rw [e] at hb
    exact z22c hT g (List.mem_singleton.1 hb)
  ·obtain ⟨x, hx, e⟩ := List.mem_map.1 hb
   exact z22c hT (k.runs y hy x hx).1 e.symm
theorem z27f(hn:18446744073709551616<n)(hby:byte<256)(ha:at_<90000)(hL:az.length<1000)(k:ArmsAt h ab az)(hB:z2a5 at_ az)(hT:HasTz h)(hx:h.ex=[49]):
  ∃h' R',world n (d+5) 14 [.sl ab 0 az.length 2,.int .u8 (byte:Int),.int .i64 (at_:Int)] h=some (.ret (.tup [.agg (z45d 0 at_ (z5d byte at_ (az.map zf1)).1),.bool (z5d byte at_ (az.map zf1)).1.isSome]),h')∧Tch (ab::z57 az) h h'∧ArmsAt h' ab R'∧z2a5 (at_+1) R'∧R'.map zf1=(z5d byte at_ (az.map zf1)).2∧R'.map (·.nb)=az.map (·.nb)∧(∀b∈z57 R',b∈z57 az∨h.next≤b)∧((z5d byte at_ (az.map zf1)).1=none→∀a∈R',zb0 a.v≠[]):=by
 suffices hK:Wp (world n (d+5) 14 [.sl ab 0 az.length 2,.int .u8 (byte:Int),.int .i64 (at_:Int)] h) fun r h'=>∃R',r=.ret (.tup [.agg (z45d 0 at_ (z5d byte at_ (az.map zf1)).1),.bool (z5d byte at_ (az.map zf1)).1.isSome])∧Tch (ab::z57 az) h h'∧ArmsAt h' ab R'∧z2a5 (at_+1) R'∧R'.map zf1=(z5d byte at_ (az.map zf1)).2∧R'.map (·.nb)=az.map (·.nb)∧(∀b∈z57 R',b∈z57 az∨h.next≤b)∧((z5d byte at_ (az.map zf1)).1=none→∀a∈R',zb0 a.v≠[]) by
  obtain⟨_,h',e,R',rfl,k⟩:=hK;exact⟨h',R',e,k⟩
 rw[z370];unfold z159;refine y9 (Mem.nil [] h) fun h2 M2=>?_;have t2:=M2.tch;have hlt:=M2.at0.2.1;have k2:=k.tch t2 (by simp) (fun _ _=>by simp) (fun _ _=>by simp)
 have habn:h.next≠ab:=by
  have:=k.hab;omega
 have hbl:h.next ∉ z57 az:=fun hb=>by
  have:=k.lt _ hb;omega
 have hnbs:∀a∈az,a.nb≠h.next:=fun a ha=>by
  have:=(k.net a ha).2.2;omega
 refine Wp.obind (show z153 (.sl ab 0 az.length 2)=some (az.length:Int) from rfl) ?_;refine y14 fun k8 ek8=>?_;have n2:=t2.1;refine z1d4 (n:=n) (d:=d) (h:=h) (L:=az.length) hn hby ha hL az [] n h2 (by omega) (by simp) k2 hB (hT.tch t2 (by simp)) (by rw[t2.2.1,hx];rfl) M2.at0.1 hlt habn hnbs hbl (fun H' R' t k' b' e' m' s' z' w'=>?_) (fun H' R' z t k' b' e' m' s' z'=>?_)
 ·rw [List.nil_append] at t k' s'
  have hS:h.next ∉ ab::z57 az:=fun hb=>by
   rcases List.mem_cons.1 hb with hb|hb
   ·exact habn hb
   ·exact hbl hb
  have kh:=M2.at0.1.tch t hlt hS;rw[ek8];rw[z10];refine Wp.stAll kh rfl rfl rfl fun H2 kk2 tt nn=>?_;refine Wp.obind (RowH.ldAll kk2 rfl) ?_;rw[z'];refine Wp.ret ⟨R',rfl,?_,k'.tch tt ?_ (fun y hy hm=>?_) (fun b hb hm=>?_),b',e',m',fun b hb=>(s' b hb).imp id fun hh=>by omega,fun _=>w'⟩
  ·refine ((t2.mono fun b hb => nomatch hb).trans t).trans' tt fun b hb => ?_
   rw[List.mem_singleton.1 hb];exact .inr (Nat.le_refl _)
  ·intro hm
   exact habn (List.mem_singleton.1 hm).symm
  ·have : y.nb ∈ R'.map (·.nb) := List.mem_map_of_mem hy
   rw[m'] at this;obtain⟨w,hw,e⟩:=List.mem_map.1 this;exact hnbs w hw (e.trans (List.mem_singleton.1 hm))
  ·have hm := List.mem_singleton.1 hm
   subst hm
   rcases s' _ hb with hb|hb
   ·exact hbl hb
   ·omega
 ·rw [List.nil_append] at t k' s'
  rw[z'];refine⟨R',rfl,?_,k',b',e',m',fun b hb=>(s' b hb).imp id fun hh=>by omega,fun hh=>by cases hh⟩;refine(t2.mono fun b hb=>nomatch hb).trans' t fun b hb=>?_
  rcases List.mem_cons.1 hb with hb|hb
  ·rw [hb]
   exact .inr (Nat.le_refl _)
  ·exact .inl hb
end
theorem bldArm(b:Nat):z252 Tryd.prog z257 [(0,.ptr b 0)]=some [.ptr b 0,.nsl]:=by kernel_rfl
theorem bldSlArm(h:AHeap)(b:Nat):zdb Tryd.prog h z2ff 1 [(0,.agg [.ptr b 0,.nsl])]=za9 h z257 [.ptr b 0,.nsl] 1 2:=by kernel_rfl
theorem fitArm:fitB Tryd.prog z257 32=true:=by kernel_rfl
def ArmOk(n d:Nat)(p:Int×z11)(t:Nd):Prop:=TreeP p.2 p.1 (.ok t)∧p.2.length≤64∧z16b t=false∧∀h:AHeap,h.ex=[49]→(∃nb h',world n (d+1) 23 [.agg [.int .i64 p.1,z19 p.2]] h=some (.ret (.tup [.ptr nb 0,.int .i64 0]),h')∧Abs.Mem [] h h' [(nb,TNet,netC (z150 t))])∧world n (d+1) 24 [.agg [.int .i64 p.1,z19 p.2]] h=some (.ret (.bool false),h)
def ArmBad(n d:Nat)(p:Int×z11):Prop:=(∀h:AHeap,h.ex=[49]→world n (d+1) 23 [.agg [.int .i64 p.1,z19 p.2]] h=some (.ret (.tup [.nilp,.int .i64 2]),h))∨∃t,TreeP p.2 p.1 (.ok t)∧z16b t=true∧∀h:AHeap,h.ex=[49]→(∃nb h',world n (d+1) 23 [.agg [.int .i64 p.1,z19 p.2]] h=some (.ret (.tup [.ptr nb 0,.int .i64 0]),h')∧Abs.Mem [] h h' [(nb,TNet,netC (z150 t))])∧world n (d+1) 24 [.agg [.int .i64 p.1,z19 p.2]] h=some (.ret (.bool true),h)
theorem arm_or{n d:Nat}(hn:18446744073709551620<n)(hd:1100≤d)(p:Int×z11):(∃t,ArmOk n d p t)∨ArmBad n d p:=by
 rcases arm_all p.1 p.2 hn hd with hb|⟨t,tp,hl,ht⟩
 ·exact .inr (.inl fun h hx=>hb h (by rw[hx];rfl))
 ·cases he : z16b t with
  |false=>exact .inl ⟨t,tp,hl,he,fun h hx=>by have:=ht h (by rw[hx];rfl);rw[he] at this;exact this⟩
  |true=>exact .inr (.inr ⟨t,tp,he,fun h hx=>by have:=ht h (by rw[hx];rfl);rw[he] at this;exact this⟩)
inductive ArmsOk (n d:Nat):List (Int×z11)→List Nd→Prop
 |nil:ArmsOk n d [] []
 |cons {p:Int×z11} {t:Nd} {ps:List (Int×z11)} {ts:List Nd} (h:ArmOk n d p t) (k:ArmsOk n d ps ts):ArmsOk n d (p::ps) (t::ts)
theorem ArmsOk.len{n d:Nat}{ps:List (Int×z11)}{ts:List Nd}(k:ArmsOk n d ps ts):ts.length=ps.length:=by
 induction k with
 |nil=>rfl
 |cons _ _ ih=>rw[List.length_cons,List.length_cons,ih]
theorem arms_or{n d:Nat}(hn:18446744073709551620<n)(hd:1100≤d):∀ps:List (Int×z11),(∃ts,ArmsOk n d ps ts)∨∃pre ts p post,ps=pre++p::post∧ArmsOk n d pre ts∧ArmBad n d p
 |[]=>.inl ⟨[],.nil⟩
 |p::ps=>by
  rcases arm_or hn hd p with⟨t,ht⟩|hb
  ·rcases arms_or hn hd ps with ⟨ts, hts⟩ | ⟨pre, ts, q, post, rfl, h1, h2⟩
   ·exact .inl ⟨t::ts,.cons ht hts⟩
   ·exact .inr ⟨p::pre,t::ts,q,post,rfl,.cons ht h1,h2⟩
  ·exact .inr ⟨[],[],p,ps,rfl,.nil,hb⟩
noncomputable def z47d(p:Int×z11):List AV:=[.int .i64 p.1,z19 p.2]
abbrev z300:=List (Nat×Nd)
noncomputable def z4a6(D:z300):List ze7:=D.map fun x=>(x.1,TNet,netC (z150 x.2))
noncomputable def z476(D:z300):List (List AV):=D.map fun x=>[.ptr x.1 0,.nsl]
section
variable {n d:Nat}{h0:AHeap}{v:AV}{ps:List (Int×z11)}{Q:ARes→AHeap→Prop}{k15:AV→AHeap→R}
theorem z227(hx:h0.ex=[49])(kp:Slc h0.next h0 2 v (ps.map z47d))(hps:ps.length≤8):
  ∀(pre:List (Int×z11)) (ts:List Nd) (post:List (Int×z11)) (i fu:Nat) (D:z300) (v4:AV) (T:List ze7) (H:AHeap),ArmsOk n d pre ts→ps.drop i=pre++post→pre.length<fu→D.length=i→GrowT z257 2 (z476 D) v4 T→Abs.Mem [] h0 H (z4a6 D++T)→
   (∀(D':z300) (v':AV) (T':List ze7) (H':AHeap) (fu':Nat),D'.map (·.2)=D.map (·.2)++ts→GrowT z257 2 (z476 D') v' T'→Abs.Mem [] h0 H' (z4a6 D'++T')→fu'+pre.length=fu→Wp (zb7 (world n (d+1)) v (ps.length:Int) k15 fu' v' ((i+pre.length:Nat):Int) H') Q)→
   Wp (zb7 (world n (d+1)) v (ps.length:Int) k15 fu v4 (i:Int) H) Q
 |_,_,_,_,0,_,_,_,_,_,_,hf,_,_,_,_=>by omega
 |[],ts,post,i,fu+1,D,v4,T,H,ka,hd,hf,hD,g,M,hk=>by
  cases ka
  exact hk D v4 T H (fu+1) (by rw[List.append_nil]) g M rfl
 |p::pre,ts,post,i,fu+1,D,v4,T,H,ka,hd,hf,hD,g,M,hk=>by
  cases ka with
  |cons ha ka=>
   rename_i t ts;rw[List.length_cons] at hf;obtain⟨hi,hp,hd2⟩:=z16d hd;have hxH:∀{h1:AHeap} {rs:List ze7},Abs.Mem [] h0 h1 rs→h1.ex=[49]:=fun M=>by rw[M.ex,hx]
   obtain⟨b,hb,x1,y1⟩:=(kp.tch M.tch (Nat.le_refl _) (by simp)).row (i:=i) (by rw[List.length_map];exact hi);rw[List.getElem_map,hp] at y1;have el:(i:Int)+1=((i+1:Nat):Int):=by omega
   have o2:(z47d p).all AV.one=true:=rfl;rw[zed];unfold z9e
   ((with_reducible refine Wp.lett ?_))
   refine y8 (by rw[decide_eq_true_eq];omega) ?_;refine Wp.obind x1 (Wp.obind y1 ?_);refine y9 M fun h2 M2=>?_;rw[z10];refine y11 M2 rfl rfl o2 fun h3 M3=>?_;refine y16 M3 rfl ?_;obtain⟨⟨nb,h4,e4,N4⟩,_⟩:=ha.2.2.2 h3 (hxH M3);refine Wp.callN e4 ?_;have M4:=Mem.frame (xs:=[]) M3 N4;simp only[List.cons_append,List.nil_append] at M4;refine Wp.obind (zd9 _ _) (Wp.obind (zd8 _ _ _) (Wp.obind (z5 _ _) ?_))
   ((with_reducible refine Wp.lett ?_))
   refine y14 fun j33 ej33=>?_;refine y7 rfl ?_;refine y20 M4 rfl ?_;refine Wp.callN (ha.2.2.2 h4 (hxH M4)).2 ?_;refine Wp.obind (z6 _) ?_;rw[ej33];refine y7 rfl ?_;refine Wp.obind (bldArm _) ?_
   have M5:Abs.Mem [] h0 h4 ((nb,TNet,netC (z150 t))::z4a6 D++T):=by
    refine⟨fun x hx=>M4.row x ?_,?_,M4.tch⟩
    ·rw [List.cons_append] at hx
     rcases List.mem_cons.1 hx with hx|hx
     ·rw [hx]
      exact List.mem_cons_self
     ·exact List.mem_cons_of_mem _ (List.mem_cons_of_mem _ hx)
    ·have ap := M4.apart
     rw[List.map_cons,List.map_cons] at ap;rw[List.cons_append,List.map_cons];exact ap.sublist ((List.sublist_cons_self _ _).cons_cons _)
   refine y27 M5 (bldSlArm _ _) rfl (by rw[hx];rfl) fun h6 M6=>?_;have hDl:(z476 D).length=i:=by rw[z476,List.length_map,hD]
   refine Wp.grow (P:=Tryd.prog) (sz:=2) (B:=32) M6 g (by kernel_rfl) (by kernel_rfl) (by kernel_rfl) fitArm (by rw[hx];rfl) rfl rfl (by rw[hDl];omega) (by rw[hDl];omega) fun v7 h7 T7 g7 M7=>?_
   (((with_reducible refine yf ?_ ?_ ?_);omega;omega))
   rw[el]
   have e9:∀D:z300,z476 (D++[(nb,t)])=z476 D++[[.ptr nb 0,.nsl]]:=fun D=>by
    unfold z476;rw[List.map_append];rfl
   refine z227 hx kp hps pre ts post (i+1) fu (D++[(nb,t)]) v7 T7 h7 ka hd2 (by omega) (by rw[List.length_append,List.length_singleton,hD]) (by rw[e9];exact g7) ?_ fun D' v' T' H' fu' a1 a2 a3 a4=>?_
   ·refine M7.perm ?_
    unfold z4a6;rw[List.map_append];exact(List.perm_append_comm (l₁:=[(nb,TNet,netC (z150 t))])).append_right _ |>.symm
   ·have := hk D' v' T' H' fu' (by rw [a1, List.map_append, List.append_assoc]; rfl) a2 a3 (by rw [List.length_cons]; omega)
    rw[List.length_cons,show i+(pre.length+1)=i+1+pre.length by omega] at this;exact this
end
noncomputable def z1dd(D:z300):List ArmT:=D.map fun x=>⟨x.1,z150 x.2,.nsl,[]⟩
theorem fresh_C:∀D:z300,zac (z1dd D)=(z476 D).flatten
 |[]=>rfl
 |x::D=>by
  show [AV.ptr x.1 0,.nsl]++zac (z1dd D)=[AV.ptr x.1 0,.nsl]++(z476 D).flatten;rw[fresh_C D]
theorem z3a5:∀D:z300,z57 (z1dd D)=[]
 |[]=>rfl
 |x::D=>by
  show z364 ⟨x.1,z150 x.2,.nsl,[]⟩++z57 (z1dd D)=[];rw[z3a5 D];rfl
theorem fresh_abs(D:z300):(z1dd D).map zf1=(D.map (·.2)).map fun t=>(z150 t,[]):=by
 unfold z1dd;rw[List.map_map,List.map_map];rfl
def Fresh(h h':AHeap)(ab:Nat)(az:List ArmT)(ts:List Nd):Prop:=Tch [] h h'∧ArmsAt h' ab az∧az.map zf1=ts.map (fun t=>(z150 t,[]))∧h.next≤ab∧z57 az=[]∧(∀a∈az,h.next≤a.nb)∧z2a5 0 az
theorem fresh_of{h H:AHeap}{D:z300}{v:AV}{T:List ze7}{ts:List Nd}(g:GrowT z257 2 (z476 D) v T)(M:Abs.Mem [] h H (z4a6 D++T))(hD:D.map (·.2)=ts)(hne:ts≠[]):∃ab,v=.sl ab 0 (z1dd D).length 2∧Fresh h H ab (z1dd D) ts:=by
 rcases g.2 with⟨h1,_,_⟩|⟨_,c,h2,rfl⟩
 ·have : D = [] := List.map_eq_nil_iff.1 h1
  rw[this] at hD;exact absurd hD.symm hne
 refine⟨c,?_,M.tch,?_,?_,?_,z3a5 D,fun a ha=>?_,fun a ha=>?_⟩
 ·rw [h2]
  unfold z476 z1dd;rw[List.length_map,List.length_map]
 ·have mc := M.row (c, z257, (z476 D).flatten) (by simp)
  have ap:=M.apart;rw[List.map_append,List.nodup_append] at ap
  have nets:∀a∈z1dd D,∃x∈D,a=⟨x.1,z150 x.2,.nsl,[]⟩:=fun a ha=>by
   obtain⟨x,hx,e⟩:=List.mem_map.1 ha;exact⟨x,hx,e.symm⟩
  refine⟨by rw[fresh_C];exact mc.1,mc.2.1,fun a ha=>?_,fun a ha=>?_,fun a ha=>?_,fun a ha=>?_,fun a ha=>?_,fun b=>if b=c then 0 else 1,if_pos rfl,fun a ha=>?_,fun i a ha b hb=>?_⟩
  ·obtain ⟨x, hx, rfl⟩ := nets a ha
   have:=M.row (x.1,TNet,netC (z150 x.2)) (List.mem_append_left _ (List.mem_map_of_mem hx));exact⟨netOf_ok _,this.1,this.2.1⟩
  ·obtain ⟨x, hx, rfl⟩ := nets a ha
   exact .inl ⟨rfl,rfl,rfl⟩
  ·obtain ⟨x, hx, rfl⟩ := nets a ha
   exact fun _ h=>nomatch h
  ·obtain ⟨x, hx, rfl⟩ := nets a ha
   exact .nil
  ·obtain ⟨x, hx, rfl⟩ := nets a ha
   exact fun _ h=>nomatch h
  ·obtain ⟨x, hx, rfl⟩ := nets a ha
   refine if_neg fun e=>?_;exact ap.2.2 x.1 (List.mem_map_of_mem (List.mem_map_of_mem (f:=fun x:Nat×Nd=>((x.1,TNet,netC (z150 x.2)):ze7)) hx)) c (by simp) e
  ·obtain ⟨x, hx, rfl⟩ := nets a (List.mem_of_getElem? ha)
   exact nomatch hb
 ·rw[fresh_abs,hD]
 ·exact(M.row (c,z257,(z476 D).flatten) (by simp)).2.2.resolve_left (by simp)
 ·obtain ⟨x, hx, rfl⟩ := List.mem_map.1 ha
  exact(M.row (x.1,TNet,netC (z150 x.2)) (List.mem_append_left _ (List.mem_map_of_mem hx))).2.2.resolve_left (by simp)
 ·obtain ⟨x, hx, rfl⟩ := List.mem_map.1 ha
  exact⟨Nat.le_refl _,fun _ h=>nomatch h⟩
def May(n d:Nat)(ps:List (Int×z11))(ts:List Nd):Prop:=1≤ps.length∧ps.length≤8∧ArmsOk n d ps ts
section
variable {n d:Nat}{h:AHeap}{v:AV}{ps:List (Int×z11)}{ts:List Nd}{s:z11}
theorem z3bb(hn:1000<n)(k:May n d ps ts)(hx:h.ex=[49])(kp:Slc h.next h 2 v (ps.map z47d)):∃ab h' az,world n (d+2) 18 [v] h=some (.ret (.tup [.sl ab 0 az.length 2,.int .i64 0]),h')∧Fresh h h' ab az ts:=by
 obtain⟨k1,k2,k3⟩:=k
 suffices hK:Wp (world n (d+2) 18 [v] h) fun r h'=>∃ab az,r=.ret (.tup [.sl ab 0 az.length 2,.int .i64 0])∧Fresh h h' ab az ts by
  obtain⟨_,h',e,ab,az,rfl,k⟩:=hK;exact⟨ab,h',az,e,k⟩
 rw[z1fe];unfold ze3;have e1:=kp.len;rw[List.length_map] at e1;have q1:((ps.length:Int) == 0)=false:=by rw[beq_eq_false_iff_ne];omega
 have q2:decide ((ps.length:Int)>8)=false:=by rw[decide_eq_false_iff_not];omega
 refine Wp.obind e1 ?_;rw[q1];refine y14 fun t11 et=>?_;refine y14 fun j16 ej=>?_;subst et;refine y7 rfl ?_;refine Wp.obind e1 ?_;rw[q2];refine y14 fun t15 et=>?_;subst et;rw[ej];refine y7 rfl ?_;refine Wp.obind e1 ?_;refine y14 fun k15 ek=>?_;refine z227 hx kp k2 ps ts [] 0 n [] .nsl [] h k3 (by rw[List.append_nil];rfl) (by omega) rfl (GrowT.nil _ _) (Mem.nil [] h) fun D' v' T' H' fu' a1 a2 a3 a4=>?_
 obtain⟨ab,e5,fr⟩:=fresh_of (ts:=ts) a2 a3 a1 (fun e=>by
  have:=k3.len;rw[e] at this;have:0=ps.length:=this;omega)
 obtain⟨fu',rfl⟩:∃f,fu'=f+1:=⟨fu' - 1,by omega⟩;rw[zed];unfold z9e
 ((with_reducible refine Wp.lett ?_))
 refine y7 (by rw[decide_eq_false_iff_not];omega) ?_;rw[ek,e5];exact Wp.ret ⟨ab,z1dd D',rfl,fr⟩
theorem z474(hn:18446744073709551620<n)(hd:1100≤d)(k:¬ ∃ts,May n d ps ts)(hx:h.ex=[49])(kp:Slc h.next h 2 v (ps.map z47d))(hbig:ps.length<1000000000000000000):∃h',world n (d+2) 18 [v] h=some (.ret (.tup [.nsl,.int .i64 2]),h')∧Tch [] h h':=by
 suffices hK:Wp (world n (d+2) 18 [v] h) fun r h'=>r=.ret (.tup [.nsl,.int .i64 2])∧Tch [] h h' by
  obtain⟨_,h',e,rfl,k⟩:=hK;exact⟨h',e,k⟩
 rw[z1fe];unfold ze3;have e1:=kp.len;rw[List.length_map] at e1;refine Wp.obind e1 ?_;refine y14 fun t11 et=>?_;refine y14 fun j16 ej=>?_
 by_cases h0:ps.length=0
 ·refine y8 (by rw [et, beq_iff_eq]; omega) ?_
  rw[ej];refine y8 rfl ?_;exact Wp.ret ⟨rfl,Tch.refl _ _⟩
 refine y7 (by rw[et,beq_eq_false_iff_ne];omega) ?_;refine Wp.obind e1 ?_;refine y14 fun t15 et2=>?_;rw[ej]
 by_cases h8:8<ps.length
 ·refine y8 (by rw [et2, decide_eq_true_eq]; omega) ?_
  exact Wp.ret ⟨rfl,Tch.refl _ _⟩
 refine y7 (by rw[et2,decide_eq_false_iff_not];omega) ?_;refine Wp.obind e1 ?_;refine y14 fun k15 ek=>?_
 rcases arms_or hn hd ps with⟨ts,hts⟩|⟨pre,ts,p,post,hps,h1,h2⟩
 ·exact absurd ⟨ts,by omega,by omega,hts⟩ k
 have hl:ps.length=pre.length+(post.length+1):=by rw[hps,List.length_append,List.length_cons]
 refine z227 hx kp (by omega) pre ts (p::post) 0 n [] .nsl [] h h1 hps (by omega) rfl (GrowT.nil _ _) (Mem.nil [] h) fun D' v' T' H' fu' a1 a2 a3 a4=>?_;obtain⟨fu',rfl⟩:∃f,fu'=f+1:=⟨fu' - 1,by omega⟩;rw[Nat.zero_add];obtain⟨b,hb,x1,y1⟩:=(kp.tch a3.tch (Nat.le_refl _) (by simp)).row (i:=pre.length) (by rw[List.length_map];omega)
 have hpi:ps[pre.length]'(by omega)=p:=by
  have:ps[pre.length]? =some p:=by rw[hps];simp
  rw[List.getElem?_eq_getElem (by omega)] at this;exact Option.some.inj this
 rw[List.getElem_map,hpi] at y1;have hxH:∀{h1:AHeap} {rs:List ze7},Abs.Mem [] h h1 rs→h1.ex=[49]:=fun M=>by rw[M.ex,hx]
 rw[zed];unfold z9e
 ((with_reducible refine Wp.lett ?_))
 refine y8 (by rw[decide_eq_true_eq];omega) ?_;refine Wp.obind x1 (Wp.obind y1 ?_);refine y9 a3 fun h2 M2=>?_;rw[z10];refine y11 M2 rfl rfl rfl fun h3 M3=>?_;refine y16 M3 rfl ?_
 rcases ‹ArmBad n d p› with hb|⟨t,_,_,ht⟩
 ·refine Wp.callN (hb h3 (hxH M3)) ?_
  refine Wp.obind (zd9 _ _) (Wp.obind (zd8 _ _ _) (Wp.obind (z5 _ _) ?_))
  ((with_reducible refine Wp.lett ?_))
  refine y14 fun j33 ej33=>?_;refine y8 rfl ?_;rw[ej33];refine y8 rfl ?_;exact Wp.ret ⟨rfl,M3.tch⟩
 ·obtain ⟨⟨nb, h4, e4, N4⟩, _⟩ := ht h3 (hxH M3)
  refine Wp.callN e4 ?_;have M4:=Mem.frame (xs:=[]) M3 N4;simp only[List.cons_append,List.nil_append] at M4;refine Wp.obind (zd9 _ _) (Wp.obind (zd8 _ _ _) (Wp.obind (z5 _ _) ?_))
  ((with_reducible refine Wp.lett ?_))
  refine y14 fun j33 ej33=>?_;refine y7 rfl ?_;refine y20 M4 rfl ?_;refine Wp.callN (ht h4 (hxH M4)).2 ?_;refine Wp.obind (z6 _) ?_;rw[ej33];refine y8 rfl ?_;exact Wp.ret ⟨rfl,M4.tch⟩
def z191:List z36a→z11→Nat→Option (Nat×Nat×Nat)
 |_,[],_=>none
 |A,c::s,i=>match (z5d c.toNat i A).1 with
  |some z=>some (z.1,z.2,i+1)
  |none=>z191 (z5d c.toNat i A).2 s (i+1)
noncomputable def z42e:Option (Nat×Nat×Nat)→List AV
 |some z=>[.int .i64 (z.1:Int),.int .i64 (z.2.1:Int),.int .i64 (z.2.2:Int)]
 |none=>[.int .i64 0,.int .i64 0,.int .i64 0]
theorem hit_first{i:Nat}{z:Nat×Nat}:z45d 0 i (some z)=z42e (some (z.1,z.2,i+1)):=by
 show [AV.int .i64 ((0+z.1:Nat):Int),_,AV.int .i64 ((i:Int)+1)]=[AV.int .i64 (z.1:Int),_,AV.int .i64 ((i+1:Nat):Int)];rw[Nat.zero_add];rfl
theorem z321{h0:AHeap}{ab L:Nat}{k20:AHeap→R}{Q:ARes→AHeap→Prop}(hn:18446744073709551616<n)(hs:s.length<80000)(hL:L<1000):
  ∀(m i fu:Nat) (az:List ArmT) (H:AHeap),m<fu→i+m=s.length→az.length=L→ArmsAt H ab az→z2a5 i az→HasTz H→H.ex=[49]→RowH H h.next z36d [.int .i64 0,.int .i64 0,.int .i64 0]→h.next<H.next→h.next≠ab→(∀a∈az,a.nb≠h.next)→h.next ∉ z57 az→h0.next≤h.next→h0.next≤ab→(∀b∈z57 az,h0.next≤b)→Tch [] h0 H→
   (∀H',Tch [] h0 H'→RowH H' h.next z36d [.int .i64 0,.int .i64 0,.int .i64 0]→z191 (az.map zf1) (s.drop i) i=none→Wp (k20 H') Q)→
   (∀H' z,Tch [] h0 H'→z191 (az.map zf1) (s.drop i) i=some z→Q (.ret (.tup [.agg (z42e (some z)),.bool true])) H')→
   Wp (zf8 (world n (d+5)) s h (.sl ab 0 L 2) k20 fu (i:Int) H) Q
 |_,_,0,_,_,hf,_,_,_,_,_,_,_,_,_,_,_,_,_,_,_,_,_=>by omega
 |0,i,fu+1,az,H,hf,hm,hl,k,hB,hT,hx,kh,hh,hab,hnb,hbl,g0,g1,g2,t0,hk,hq=>by
  have ll:=z6a s;rw[z142];unfold ze4
  repeat(first|(with_reducible refine Wp.lett ?_)|((with_reducible refine y7 ?_ ?_;apply decide_eq_false);omega))
  exact hk H t0 kh (by rw[List.drop_of_length_le (by omega)];rfl)
 |m+1,i,fu+1,az,H,hf,hm,hl,k,hB,hT,hx,kh,hh,hab,hnb,hbl,g0,g1,g2,t0,hk,hq=>by
  have ll:=z6a s;have hi:i<s.length:=by omega
  have hxs:=z2a1 hi;have el:(i:Int)+1=((i+1:Nat):Int):=by omega
  rw[List.drop_eq_getElem_cons hi] at hk hq;subst hl;obtain⟨h1,R',e1,t1,k1,b1,a1,n1,s1,_⟩:=z27f (n:=n) (d:=d) (at_:=i) hn (byte_lt hi) (by omega) hL k hB hT hx
  have hhS:h.next ∉ ab::z57 az:=fun hb=>by
   rcases List.mem_cons.1 hb with hb|hb
   ·exact hab hb
   ·exact hbl hb
  have kh1:=kh.tch t1 hh hhS;have hh1:h.next<h1.next:=Nat.lt_of_lt_of_le hh t1.1
  have t01:Tch [] h0 h1:=t0.trans' t1 fun b hb=>by
   rcases List.mem_cons.1 hb with hb|hb
   ·rw [hb]
    exact .inr g1
   ·exact .inr (g2 b hb)
  have hT1:=hT.tch t1 (k.tz hT);rw[z142];unfold ze4
  ((with_reducible refine Wp.lett ?_))
  refine y8 (by rw[decide_eq_true_eq];omega) ?_;refine Wp.obind hxs ?_;refine Wp.callN e1 ?_;refine Wp.obind (zd9 _ _) (Wp.obind (z13 _) (Wp.obind (zd8 _ _ _) (Wp.obind (z6 _) ?_)));refine y9 (Mem.nil [] h1) fun h2 M2=>?_;rw[z10];have hfl:∀r,(z45d 0 i r).length=3∧(z45d 0 i r).all AV.one=true:=fun r=>by cases r<;>exact⟨rfl,rfl⟩
  refine y11 M2 (hfl _).1 rfl (hfl _).2 fun h3 M3=>?_;have kh3:=kh1.tch M3.tch hh1 (by simp);cases hz:(z5d (s[i]).toNat i (az.map zf1)).1 with
  |some z=>
   rw[hz] at M3;refine y8 rfl ?_;refine y16 M3 (hfl _).1 ?_;rw[z10];refine Wp.stAll kh3 (hfl _).1 rfl (hfl _).2 fun h4 k4 t4 n4=>?_;refine Wp.obind (RowH.ldAll k4 (hfl _).1) ?_;rw[hit_first];refine Wp.ret (hq h4 _ ((t01.trans M3.tch).trans' t4 fun b hb=>by rw[List.mem_singleton.1 hb];exact .inr g0) ?_);show z191 (az.map zf1) (s[i]::s.drop (i+1)) i=_;rw[z191,hz]
  |none=>
   refine y7 rfl ?_
   (((with_reducible refine yf ?_ ?_ ?_);omega;omega))
   rw[el];have e9:z191 (az.map zf1) (s[i]::s.drop (i+1)) i=z191 (R'.map zf1) (s.drop (i+1)) (i+1):=by rw[z191,hz,a1]
   have hlR:R'.length=az.length:=by
    have:=congrArg List.length n1;rw[List.length_map,List.length_map] at this;exact this
   have k3:=k1.tch M3.tch (by simp) (fun _ _=>by simp) (fun _ _=>by simp);have hn1:H.next≤h1.next:=t1.1;have hnx:h0.next≤H.next:=t0.1;refine z321 hn hs hL m (i+1) fu R' h3 (by omega) (by omega) hlR k3 b1 (hT1.tch M3.tch (by simp)) (by rw[M3.ex,t1.2.1,hx]) kh3 (Nat.lt_of_lt_of_le hh1 M3.tch.1) hab (fun y hy e=>?_) (fun hb=>?_) g0 g1 (fun b hb=>?_) (t01.trans M3.tch) (fun H' t' q' z'=>hk H' t' q' (by rw[e9];exact z')) (fun H' z t' z'=>hq H' z t' (by rw[e9];exact z'))
   ·have : y.nb ∈ R'.map (·.nb) := List.mem_map_of_mem hy
    rw[n1] at this;obtain⟨w,hw,e2⟩:=List.mem_map.1 this;exact hnb w hw (e2.trans e)
   ·rcases s1 _ hb with hb | hb
    ·exact hbl hb
    ·omega
   ·rcases s1 _ hb with hb | hb
    ·exact g2 b hb
    ·omega
theorem z1eb(hn:18446744073709551620<n)(k:May n (d+3) ps ts)(hx:h.ex=[49])(hT:HasTz h)(kp:Slc h.next h 2 v (ps.map z47d))(hs:s.length<80000):
  ∃h',world n (d+6) 11 [v,z19 s] h=some (.ret (.tup [.agg (z42e (z191 (ts.map fun t=>(z150 t,[])) s 0)),.bool (z191 (ts.map fun t=>(z150 t,[])) s 0).isSome]),h')∧Tch [] h h':=by
 suffices hK:Wp (world n (d+6) 11 [v,z19 s] h) fun r h'=>r=.ret (.tup [.agg (z42e (z191 (ts.map fun t=>(z150 t,[])) s 0)),.bool (z191 (ts.map fun t=>(z150 t,[])) s 0).isSome])∧Tch [] h h' by
  obtain⟨_,h',e,rfl,k⟩:=hK;exact⟨h',e,k⟩
 rw[z336];unfold z129;refine y9 (Mem.nil [] h) fun h2 M2=>?_;have t2:=M2.tch;have hx2:h2.ex=[49]:=by rw[M2.ex,hx]
 have kp2:Slc h2.next h2 2 v (ps.map z47d):=kp.keep t2.1 fun b o hb ho=>by rw[t2.2.2 b hb (by simp)];exact ho
 obtain⟨ab,h3,az,e3,fr⟩:=z3bb (n:=n) (d:=d+3) (by omega) k hx2 kp2;refine Wp.callN e3 ?_;obtain⟨t3,ka,ha,hab,hblk,hnbs,hB⟩:=fr;have hhl:=M2.at0.2.1
 have hlen:az.length=ts.length:=by
  have:=congrArg List.length ha;rw[List.length_map,List.length_map] at this;exact this
 have hts:=k.2.2.len;have h8:=k.2.1;refine Wp.obind (zd9 _ _) (Wp.obind (zd8 _ _ _) (Wp.obind (z5 _ _) ?_))
 ((with_reducible refine Wp.lett ?_))
 refine y7 rfl ?_;refine y14 fun k20 ek=>?_;have n2:=t2.1;have n3:=t3.1;refine z321 (n:=n) (d:=d) (h:=h) (h0:=h) (s:=s) (by omega) hs (L:=az.length) (by omega) s.length 0 n az h3 (by omega) (Nat.zero_add _) rfl ka hB (hT.tch (t2.trans t3) (by simp)) (by rw[t3.2.1,hx2]) (M2.at0.1.tch t3 hhl (by simp)) (by omega) (by omega) (fun a ha=>by have:=hnbs a ha;omega) (by rw[hblk];simp) (Nat.le_refl _) (by omega) (by rw[hblk];simp) (t2.trans t3) (fun H' t' q' z'=>?_) (fun H' z t' z'=>?_)
 ·rw [ha, List.drop_zero] at z'
  rw[ek,z10,z'];refine Wp.stAll q' rfl rfl rfl fun h4 k4 t4 n4=>?_;refine Wp.obind (RowH.ldAll k4 rfl) ?_;exact Wp.ret ⟨rfl,t'.trans' t4 fun b hb=>by rw[List.mem_singleton.1 hb];exact .inr (Nat.le_refl _)⟩
 ·rw [ha, List.drop_zero] at z'
  rw[z'];exact⟨rfl,t'⟩
end
abbrev TBy:Nat:=47
theorem bldSlBy(h:AHeap)(v:Int):zdb Tryd.prog h TBy 1 [(0,.int .u8 v)]=za9 h 5 [.int .u8 v] 1 1:=by kernel_rfl
theorem fitBy:fitB Tryd.prog 5 1=true:=by kernel_rfl
def BufAt(h:AHeap)(v:AV)(u:z11):Prop:=(v=.nsl∧u=[])∨∃c rest,v=.sl c 0 u.length 1∧RowH h c 5 (z64 u++rest)∧c<h.next
section
variable {h h':AHeap}{v:AV}{u:z11}{b1 c0:Nat}
theorem BufAt.tch{S:List Nat}(k:BufAt h v u)(t:Tch S h h')(hd:∀b∈zb0 v,b ∉ S):BufAt h' v u:=by
 rcases k with k|⟨c,rest,rfl,h2,h3⟩
 ·exact .inl k
 ·exact .inr ⟨c,rest,rfl,h2.tch t h3 (hd c (List.mem_singleton.2 rfl)),Nat.lt_of_lt_of_le h3 t.1⟩
theorem BufAt.lt(k:BufAt h v u):∀b∈zb0 v,b<h.next:=by
 rcases k with⟨rfl,_⟩|⟨c,rest,rfl,_,h3⟩
 ·exact fun b hb=>nomatch hb
 ·intro b hb
  rw[List.mem_singleton.1 hb];exact h3
theorem BufAt.len(k:BufAt h v u):z153 v=some (u.length:Int):=by
 rcases k with⟨rfl,rfl⟩|⟨c,rest,rfl,_⟩<;>rfl
theorem BufAt.push(k:BufAt h v u)(kr:RowH h b1 5 [.int .u8 (c0:Int)])(hc0:c0<256)(hm:u.length<1000000)(hx:h.ex=[49]):
  ∃h',z4b Tryd.prog h TBy TBy v (.sl b1 0 1 1)=some (.val (.sl h.next 0 (u.length+1) 1),h')∧BufAt h' (.sl h.next 0 (u.length+1) 1) (u++[UInt8.ofNat c0])∧h.next<h'.next∧Tch (zb0 v) h h':=by
 have he:Abs.elemOf Tryd.prog TBy=some 5:=by kernel_rfl
 have hu:z18c Tryd.prog TBy=true:=by kernel_rfl
 have hsz:Tryd.prog.cellsOf 5=1:=by kernel_rfl
 have hex:zb6 5 h.ex=false:=by rw[hx];rfl
 have eb:z64 (u++[UInt8.ofNat c0])=z64 u++[.int .u8 (c0:Int)]:=by
  rw[z24f];show z64 u++[AV.int .u8 ((UInt8.ofNat c0).toNat:Int)]=_;rw[UInt8.toNat_ofNat_of_lt' hc0]
 have el:u.length+1=(u++[UInt8.ofNat c0]).length:=by rw[List.length_append,List.length_singleton]
 rcases k with⟨rfl,rfl⟩|⟨c,rest,rfl,h2,h3⟩
 ·have a1 := z192 (P := Tryd.prog) (h := h) (t := TBy) (u := TBy) (n := 0) (x := .sl b1 0 1 1) he hu hsz rfl (z11d kr rfl) (z82 fitBy (by omega) (by omega)) rfl hex
  refine⟨_,a1,.inr ⟨h.next,[],by rw[el],?_,Nat.lt_succ_self _⟩,Nat.lt_succ_self _,Tch.newH _ _ _ _⟩;rw[eb,List.append_nil];exact RowH.new _ _ _
 ·have hcl := za7 u
  have a1:=z12e (P:=Tryd.prog) (h:=h) (t:=TBy) (u:=TBy) (b:=c) (o:=0) (m:=u.length) (n:=0) (x:=.sl b1 0 1 1) (cs:=z64 u) he hu hsz rfl (z11d kr rfl) (z82 fitBy (by omega) (by omega)) rfl hex (by
   have:=h2.part (o:=0) (n:=(z64 u).length) (by rw[List.length_append];omega);rw[List.drop_zero,List.take_left' rfl] at this;rw[Nat.mul_one, ←hcl];exact this) h2.type
  refine⟨_,a1,.inr ⟨h.next,[],by rw[el],?_,Nat.lt_succ_self _⟩,Nat.lt_succ_self _,?_⟩
  ·rw [eb, List.append_nil]
   exact RowH.new (h.put c .dead) _ _
  ·exact(Tch.put (S:=[c]) (.inl (List.mem_singleton.2 rfl)) _).trans (Tch.newH _ _ _ _)
end
theorem z3b4{t e:TypeId}{h:AHeap}{c m sz j:Nat}{l:List AV}(he:Abs.elemOf Tryd.prog t=some e)(hi:(Tryd.prog.info? e).isSome=true)(hsz:Tryd.prog.cellsOf e=sz)(k:RowH h c e l)(hm:m*sz≤l.length)(hj:j≤m)(hone:((l.drop (j*sz)).take ((m - j)*sz)).all AV.one=true):
  ∃h',z201 Tryd.prog h t (.sl c 0 m sz) (.sl c (0+j*sz) (m - j) sz)=some (.val (.int .i64 ((m - j:Nat):Int)),h')∧RowH h' c e (laid l 0 ((l.drop (j*sz)).take ((m - j)*sz)))∧h'.next=h.next∧Tch [c] h h':=by
 have hlen:((l.drop (j*sz)).take ((m - j)*sz)).length=(m - j)*sz:=by
  rw[List.length_take,List.length_drop];have:(m - j)*sz=m*sz - j*sz:=Nat.sub_mul _ _ _;clear he hi hsz;omega
 have hle:(m - j)*sz≤m*sz:=Nat.mul_le_mul_right _ (Nat.sub_le _ _)
 obtain⟨h',e1,e2,e3,e4,e5⟩:=k.put (vs:=(l.drop (j*sz)).take ((m - j)*sz)) (o:=0) (by
  rw[hlen,Nat.zero_add];exact Nat.le_trans hle hm) hone
 refine⟨h',?_,e2,e3,z307 e3 e4 e5 (.inl (List.mem_singleton.2 rfl))⟩
 have hp:=k.part (o:=0+j*sz) (n:=(m - j)*sz) (by
  have:(m - j)*sz+j*sz=m*sz:=by rw[←Nat.add_mul,Nat.sub_add_cancel hj]
  clear he hi hsz;omega)
 rw[Nat.zero_add] at hp;have hmin:Nat.min (m - j) m=m - j:=Nat.min_eq_left (Nat.sub_le _ _);unfold z201;rw[he,show z29a (.sl c 0 m sz)=some m from rfl,show z29a (.sl c (0+j*sz) (m - j) sz)=some (m - j) from rfl];dsimp only;rw[hsz,hmin,z1a9 (Nat.le_refl _),Nat.zero_add,hp];dsimp only;rw[if_pos ⟨rfl,hi⟩,e1]
theorem copy_none{t e:TypeId}{h:AHeap}{c m sz:Nat}{l:List AV}(he:Abs.elemOf Tryd.prog t=some e)(hi:(Tryd.prog.info? e).isSome=true)(hsz:Tryd.prog.cellsOf e=sz)(k:RowH h c e l):
  ∃h',z201 Tryd.prog h t (.sl c 0 m sz) .esl=some (.val (.int .i64 ((0:Nat):Int)),h')∧RowH h' c e (laid l 0 [])∧h'.next=h.next∧Tch [c] h h':=by
 obtain⟨h',e1,e2,e3,e4,e5⟩:=k.put (vs:=[]) (o:=0) (by simp) rfl;refine⟨h',?_,e2,e3,z307 e3 e4 e5 (.inl (List.mem_singleton.2 rfl))⟩;have hmin:Nat.min 0 m=0:=Nat.zero_min _;unfold z201;rw[he,show z29a (.sl c 0 m sz)=some m from rfl,show z29a .esl=some 0 from rfl];dsimp only;rw[hmin,show z1b5 h (Tryd.prog.cellsOf e) 0 .esl=some [] from rfl];dsimp only;rw[if_pos ⟨hsz.symm,hi⟩,e1]
theorem z36f:∀l:List z186,(z76 l).all AV.one=true
 |[]=>rfl
 |x::l=>by
  rw[z76,List.all_append,z36f l];rfl
theorem z304:∀(l:List z186) (j:Nat),(z76 l).drop (2*j)=z76 (l.drop j)
 |l,0=>rfl
 |[],j+1=>by
  rw[List.drop_nil];exact List.drop_nil
 |x::l,j+1=>by
  rw[z76,List.drop_succ_cons, ←z304 l j,show 2*(j+1)=(z28b x).length+2*j from Nat.add_comm _ _,List.drop_append,List.drop_of_length_le (Nat.le_add_right _ _),Nat.add_sub_cancel_left];rfl
theorem z447{l:List z186}{rest:List AV}{i:Nat}(hi:i<l.length):(z76 l++rest)[0+i*2+1]? =some (.int .i64 ((l[i]).2.2:Int)):=by
 have e:z76 l=z76 (l.take i)++(z28b l[i]++z76 (l.drop (i+1))):=by
  have:=z133 (l.take i) (l.drop i);rw[List.take_append_drop] at this;rw[this,List.drop_eq_getElem_cons hi,z76]
 have hl:(z76 (l.take i)).length=2*i:=by rw[z83,List.length_take];omega
 rw[e,List.append_assoc,List.getElem?_append_right (by omega),show 0+i*2+1 - (z76 (l.take i)).length=1 by omega];rfl
def z24c(f:Nat)(l:List z186):List z186:=l.dropWhile fun x=>decide (x.2.2<f)
theorem z35b(f:Nat):∀l:List z186,∃j,j≤l.length∧z24c f l=l.drop j
 |[]=>⟨0,Nat.le_refl _,rfl⟩
 |x::l=>by
  unfold z24c;rw[List.dropWhile_cons]
  split
  ·obtain ⟨j, h1, h2⟩ := z35b f l
   exact⟨j+1,by rw[List.length_cons];omega,by rw[List.drop_succ_cons];exact h2⟩
  ·exact⟨0,Nat.zero_le _,rfl⟩
section
variable {N:Nt}{n d nb ab o f:Nat}{h:AHeap}{cells:List AV}{v:AV}{l:List z186}{Q:ARes→AHeap→Prop}{k4:Int→AHeap→R}
theorem z2d8{c:Nat}{rest:List AV}(ka:RowH h ab z257 cells)(hv:cells[o+1]? =some (.sl c 0 l.length 2))(kc:RowH h c z208 (z76 l++rest))(hl:l.length<1000000)(hx:∀x∈l,x.2.2<1000000000000):
  ∀(todo:List z186) (i fu:Nat),l.drop i=todo→i≤l.length→todo.length<fu→(∀j,j≤l.length→z24c f todo=l.drop j→Wp (k4 (j:Int) h) Q)→Wp (z97 (.ptr ab o) (f:Int) k4 fu (i:Int) h) Q
 |_,_,0,_,_,hf,_=>by omega
 |[],i,fu+1,hd,hi,hf,hk=>by
  have hli:=drop_nil hd;rw[za5];unfold z68;have cv:=y5 ka hv;have e1:z153 (.sl c 0 l.length 2)=some (l.length:Int):=rfl
  repeat(first|(with_reducible first|refine yc (fun _ _=>?_)|refine Wp.lett ?_|(apply Wp.obind;first|exact z12 _ _|exact cv|exact e1|exact z8 _ _ _))|((with_reducible refine y7 ?_ ?_);first|(with_reducible rfl)|((with_reducible apply decide_eq_false);omega))|(with_reducible refine ye (by assumption) ?_))
  exact hk i hi (by rw[hd];rfl)
 |x::todo,i,fu+1,hd,hi,hf,hk=>by
  obtain⟨hli,hxi,hd2⟩:=z16d hd;rw[List.length_cons] at hf;have cv:=y5 ka hv;have e1:z153 (.sl c 0 l.length 2)=some (l.length:Int):=rfl;have e2:=z1dc (b:=c) hli;have e3:=y5 kc (z447 (rest:=rest) hli);have hxb:=hx _ (List.getElem_mem hli);rw[hxi] at e3 hxb;have el:(i:Int)+1=((i+1:Nat):Int):=by omega
  rw[za5];unfold z68
  by_cases hlt:x.2.2<f
  ·repeat (first | (with_reducible refine yc (fun _ _ => ?_)) | ((with_reducible refine yf ?_ ?_ ?_); omega; omega) | (with_reducible first | refine Wp.lett ?_ | (apply Wp.obind; first | exact z12 _ _ | exact cv | exact e1 | exact e2 | exact e3 | exact z5 _ _ | exact z8 _ _ _)) | ((with_reducible refine y8 ?_ ?_; apply decide_eq_true); omega) | (with_reducible refine ye (by assumption) ?_))
   rw[el];refine z2d8 ka hv kc hl hx todo (i+1) fu hd2 (by omega) (by omega) fun j hj e=>hk j hj ?_;rw[←e];unfold z24c;rw[List.dropWhile_cons,if_pos (decide_eq_true hlt)]
  ·repeat (first | (with_reducible first | refine yc (fun _ _ => ?_) | refine Wp.lett ?_ | (apply Wp.obind; first | exact z12 _ _ | exact cv | exact e1 | exact e2 | exact e3 | exact z5 _ _ | exact z8 _ _ _)) | ((with_reducible refine y8 ?_ ?_; apply decide_eq_true); omega) | ((with_reducible refine y7 ?_ ?_; apply decide_eq_false); omega) | (with_reducible refine ye (by assumption) ?_))
   refine hk i hi ?_;rw[hd];unfold z24c;rw[List.dropWhile_cons,if_neg (by rw[decide_eq_true_eq];exact hlt)]
theorem forget_r(k:ArmAt h ab o nb N cells v l)(hne:ab≠nb)(hl:l.length<1000000)(hx:∀x∈l,x.2.2<1000000000000)(hn:1000000<n):
  ∃v' h',world n (d+2) 19 [.ptr ab o,.int .i64 (f:Int)] h=some (.ret (.tup []),h')∧ArmAt h' ab o nb N (cells.set (o+1) v') v' (z24c f l)∧zb0 v'=zb0 v∧h'.next=h.next∧Tch (ab::zb0 v) h h':=by
 obtain⟨k1,k2,k3,kv,k5,k6,k7,k8,k9,k10,k11,k12,k13,k14⟩:=id k
 have hlen:o+1<cells.length:=by
  apply Nat.lt_of_not_le;intro hh;rw[List.getElem?_eq_none hh] at kv
  cases kv
 suffices hK:Wp (world n (d+2) 19 [.ptr ab o,.int .i64 (f:Int)] h) fun r h'=>∃v',r=.ret (.tup [])∧ArmAt h' ab o nb N (cells.set (o+1) v') v' (z24c f l)∧zb0 v'=zb0 v∧h'.next=h.next∧Tch (ab::zb0 v) h h' by
  obtain⟨_,h',e,v',rfl,k⟩:=hK;exact⟨v',h',e,k⟩
 rw[z22b];unfold z9f;refine y14 fun k4 ek=>?_
 rcases k5 with⟨rfl,h1,h0⟩|⟨c,rest,rfl,hA,kc,hc⟩
 ·have e0 : l = [] := List.eq_nil_of_length_eq_zero h0
  subst e0;have cv:=y5 k1 kv;have l0:z153 .nsl=some 0:=rfl;have s1:zbc Tryd.prog h z193 .nsl (some (.int .i64 0)) none=some (.val .nsl,h):=by kernel_rfl
  have s2:z201 Tryd.prog h z193 .nsl .nsl=some (.val (.int .i64 0),h):=by kernel_rfl
  obtain⟨n,rfl⟩:∃n',n=n'+1:=⟨n - 1,by omega⟩;obtain⟨v',h3,e3,q1,q2,q3,q4,q5⟩:=z1f4 (n:=n+1) (d:=d) (live:=0) k1 kv k2 (.inl ⟨rfl,h1,rfl⟩) (Nat.le_refl _) k11;rw[za5];unfold z68
  repeat(first|(with_reducible first|refine yc (fun _ _=>?_)|refine Wp.lett ?_|(apply Wp.obind;first|exact z12 _ _|exact cv|exact l0|exact z5 _ _|exact z8 _ _ _))|((with_reducible refine y7 ?_ ?_);first|(with_reducible rfl)|((with_reducible apply decide_eq_false);omega))|(with_reducible first|(apply Wp.outK;assumption)|refine ye (by assumption) ?_))
  refine Wp.callN e3 ?_;refine Wp.ret ⟨v',rfl,⟨q1,by omega,?_,List.getElem?_set_self hlen,q2,(fun _ h=>nomatch h),k7.tch q5 k8 fun hm=>?_,by omega,.nil,(fun _ _ h=>nomatch h),(by rw[q3];exact k11),(fun h=>nomatch h),(by rw[q3];exact k13),fun h=>nomatch h⟩,q3,q4,q5⟩
  ·rw [List.getElem?_set_ne (by omega)]
   exact k3
  ·rcases List.mem_cons.1 hm with hm | hm
   ·exact hne hm.symm
   ·exact k13 hm
 have he:Abs.elemOf Tryd.prog z193=some z208:=by kernel_rfl
 have hi:(Tryd.prog.info? z208).isSome=true:=by kernel_rfl
 have hsz:Tryd.prog.cellsOf z208=2:=by kernel_rfl
 have hac:ab≠c:=fun e=>k11 (e▸List.mem_singleton.2 rfl);have cv:=y5 k1 kv;refine z2d8 k1 kv kc hl hx l 0 n rfl (Nat.zero_le _) (by omega) fun j hj ej=>?_;rw[ek,ej];have hwl:=z83 l
 -- the copy, whatever the rest is
 have fin:∀{h2:AHeap} {l2:List AV},RowH h2 c z208 l2→l2.take (2*(l.length - j))=z76 (l.drop j)→2*l.length≤l2.length→h2.next=h.next→Tch [c] h h2→Wp (callN (world n (d+1) 21 [.ptr ab o,.int .i64 ((l.length - j:Nat):Int)] h2) fun _ h_17=>some (.ret (.tup []),h_17)) fun r h'=>∃v',r=.ret (.tup [])∧ArmAt h' ab o nb N (cells.set (o+1) v') v' (l.drop j)∧zb0 v'=zb0 (.sl c 0 l.length 2)∧h'.next=h.next∧Tch (ab::zb0 (.sl c 0 l.length 2)) h h':=by
  intro h2 l2 kc2 e2 hl2 n2 t2;have ka2:=k1.tch t2 k2 (by simpa using hac);have kv2:VAt h2 (.sl c 0 l.length 2) (l2.take (2*l.length)) l.length:=.inr ⟨c,l2.drop (2*l.length),rfl,by rw[List.length_take];omega,by rw[List.take_append_drop];exact kc2,by omega⟩;obtain⟨v',h3,e3,q1,q2,q3,q4,q5⟩:=z1f4 (n:=n) (d:=d) (live:=l.length - j) ka2 kv (by omega) kv2 (by omega) k11;refine Wp.callN e3 ?_;rw[List.take_take,Nat.min_eq_left (by omega),e2] at q2;have tt:Tch (ab::zb0 (.sl c 0 l.length 2)) h h3:=(t2.mono fun b hb=>.inl (List.mem_cons_of_mem _ hb)).trans q5;have hdl:(l.drop j).length=l.length - j:=List.length_drop
  have hsub:∀b∈(l.drop j).map (·.1),b∈l.map (·.1):=fun b hb=>by
   obtain⟨x,hx,e⟩:=List.mem_map.1 hb;exact List.mem_map.2 ⟨x,List.mem_of_mem_drop hx,e⟩
  have nS:∀b∈l.map (·.1),b ∉ ab::zb0 (.sl c 0 l.length 2):=fun b hb hm=>by
   rcases List.mem_cons.1 hm with hm|hm
   ·exact k12 (hm▸hb)
   ·exact k10 b hm hb
  refine Wp.ret ⟨v',rfl,⟨q1,by omega,?_,List.getElem?_set_self hlen,by rw[hdl];exact q2,?_,?_,by omega,?_,fun b hb hm=>?_,?_,fun hb=>k12 (hsub _ hb),?_,fun hb=>k14 (hsub _ hb)⟩,q3,q4.trans n2,tt⟩
  ·rw [List.getElem?_set_ne (by omega)]
   exact k3
  ·exact RunsAt.tch (fun x hx=>k6 x (List.mem_of_mem_drop hx)) tt fun x hx=>nS _ (hsub _ (List.mem_map_of_mem hx))
  ·refine k7.tch tt k8 fun hm => ?_
   rcases List.mem_cons.1 hm with hm|hm
   ·exact hne hm.symm
   ·exact k13 hm
  ·exact k9.sublist ((List.drop_sublist j l).map _)
  ·rw [q3] at hb
   exact k10 b hb (hsub _ hm)
  ·rw [q3]
   exact k11
  ·rw [q3]
   exact k13
 have e1:((z76 l++rest).drop (j*2)).take ((l.length - j)*2)=z76 (l.drop j):=by
  rw[List.drop_append_of_le_length (by omega),show j*2=2*j from Nat.mul_comm _ _,z304];exact List.take_left' (by rw[z83,List.length_drop];omega)
 by_cases hje:j=l.length∧0<j
 ·obtain ⟨rfl, h0⟩ := hje
  have s1:=z37b (P:=Tryd.prog) (h:=h) (b:=c) (o:=0) (k1:=.i64) he hi hsz h0;obtain⟨h2,c2,q1,q2,q3⟩:=copy_none (m:=l.length) he hi hsz kc;refine Wp.obind (z12 _ _) (Wp.obind (z8 _ _ _) (Wp.obind cv (Wp.obind (z12 _ _) (Wp.obind (z8 _ _ _) (Wp.obind cv (Wp.outK s1 (Wp.outK c2 (Wp.obind (z5 _ _) ?_))))))))
  have:=fin q1 (by
   rw[Nat.sub_self,List.drop_length];rfl) (by
   show _≤(laid _ 0 []).length;rw[z12a (by simp),List.length_append];omega) q2 q3
  rw[Nat.sub_self] at this;exact this
 ·have s1 := z25e (P := Tryd.prog) (h := h) (b := c) (o := 0) (m := l.length) (l1 := j) (k1 := .i64) he hi hsz hj hje
  obtain⟨h2,c2,q1,q2,q3⟩:=z3b4 (m:=l.length) (j:=j) he hi hsz kc (by rw[List.length_append];omega) hj (by rw[e1];exact z36f _);refine Wp.obind (z12 _ _) (Wp.obind (z8 _ _ _) (Wp.obind cv (Wp.obind (z12 _ _) (Wp.obind (z8 _ _ _) (Wp.obind cv (Wp.outK s1 (Wp.outK c2 (Wp.obind (z5 _ _) ?_))))))));rw[e1] at q1;have hdl:(z76 (l.drop j)).length=2*(l.length - j):=by rw[z83,List.length_drop]
  refine fin q1 ?_ ?_ q2 q3
  ·unfold laid
   rw[List.take_zero,List.nil_append];exact List.take_left' hdl
  ·rw [z12a (by rw [List.length_append]; omega), List.length_append]
   omega
end
abbrev z3c2:Nat:=49
def z3f0(f:Nat)(a:z36a):z36a:=(a.1,a.2.dropWhile fun x=>decide (x.2<f))
def z325(a:z36a):z36a:=(a.1,[])
theorem dropW_W(f:Nat):∀l:List z186,(z24c f l).map (·.2)=(l.map (·.2)).dropWhile fun x=>decide (x.2<f)
 |[]=>rfl
 |x::l=>by
  unfold z24c;rw[List.map_cons,List.dropWhile_cons,List.dropWhile_cons]
  by_cases h:x.2.2<f
  ·rw [if_pos (decide_eq_true h), if_pos (decide_eq_true h)]
   exact dropW_W f l
  ·rw[if_neg (by rw[decide_eq_true_eq];exact h),if_neg (by rw[decide_eq_true_eq];exact h),List.map_cons]
def Sub1(H H':AHeap)(ab:Nat)(R R':List ArmT)(F:z36a→z36a)(P:List ArmT):Prop:=Tch (ab::z57 (P++R)) H H'∧H'.next=H.next∧ArmsAt H' ab (P++R')∧R'.map zf1=(R.map zf1).map F∧R'.map (·.nb)=R.map (·.nb)∧(∀b∈z57 (P++R'),b∈z57 (P++R))∧(∀B,z2a5 B R→z2a5 B R')∧R'.map (fun a=>zb0 a.v)=R.map (fun a=>zb0 a.v)
section
variable {H H1 H':AHeap}{ab:Nat}{P R R':List ArmT}{a:ArmT}{v':AV}{l':List z186}{F:z36a→z36a}
theorem Sub1.nil(k:ArmsAt H ab (P++[])):Sub1 H H ab [] [] F P:=⟨Tch.refl _ _,rfl,k,rfl,rfl,fun _ h=>h,fun _ h=>h,rfl⟩
theorem z3dd(k:ArmsAt H ab (P++a::R))(k1:ArmAt H1 ab (0+P.length*2) a.nb a.N ((zac (P++a::R)).set (0+P.length*2+1) v') v' l')(hb:zb0 v'=zb0 a.v)(hl:∀x∈l',x∈a.l)(t:Tch (ab::zb0 a.v) H H1):ArmsAt H1 ab (P++{a with v:=v',l:=l'}::R)∧(∀b∈z57 (P++{a with v:=v',l:=l'}::R),b∈z57 (P++a::R))∧Tch (ab::z57 (P++a::R)) H H1:=by
 have hs:∀b∈l'.map (·.1),b∈a.l.map (·.1):=fun b hb=>by
  obtain⟨x,hx,e⟩:=List.mem_map.1 hb;exact List.mem_map.2 ⟨x,hl x hx,e⟩
 refine⟨k.step k1 (fun b h=>.inl (hb▸h)) (fun b h=>.inl (hs b h)) (t.mono fun b hb=>.inl ?_),fun b h=>?_,t.mono fun b hb=>.inl ?_⟩
 ·rcases List.mem_cons.1 hb with hb | hb
  ·rw [hb]
   exact List.mem_cons_self
  ·exact List.mem_cons_of_mem _ (List.mem_append_left _ hb)
 ·obtain ⟨y, hy, h⟩ := z53.1 h
  rcases List.mem_append.1 hy with hy|hy
  ·exact z53.2 ⟨y,List.mem_append_left _ hy,h⟩
  rcases List.mem_cons.1 hy with rfl|hy
  ·refine z53.2 ⟨a, by simp, ?_⟩
   rcases List.mem_append.1 h with h|h
   ·exact List.mem_append_left _ (hb▸h)
   ·exact List.mem_append_right _ (hs b h)
  ·exact z53.2 ⟨y,by simp[hy],h⟩
 ·rcases List.mem_cons.1 hb with hb | hb
  ·rw [hb]
   exact List.mem_cons_self
  ·exact List.mem_cons_of_mem _ (z53.2 ⟨a,by simp,List.mem_append_left _ hb⟩)
theorem Sub1.cons(k:ArmsAt H ab (P++a::R))(k1:ArmAt H1 ab (0+P.length*2) a.nb a.N ((zac (P++a::R)).set (0+P.length*2+1) v') v' l')(hb:zb0 v'=zb0 a.v)(hl:∀x∈l',x∈a.l)(hll:l'.length≤a.l.length)(hF:(a.N,l'.map (·.2))=F (zf1 a))(t:Tch (ab::zb0 a.v) H H1)(hn:H1.next=H.next)(S:Sub1 H1 H' ab R R' F (P++[{a with v:=v',l:=l'}])):
  Sub1 H H' ab (a::R) ({a with v:=v',l:=l'}::R') F P:=by
 obtain⟨_,q2,q3⟩:=z3dd k k1 hb hl t;obtain⟨s1,s2,s3,s4,s5,s6,s7,s8⟩:=S;have re:∀X:List ArmT,(P++[{a with v:=v',l:=l'}])++X=P++{a with v:=v',l:=l'}::X:=fun X=>by simp
 rw[re] at s1 s3 s6;rw[re] at s6;refine⟨q3.trans (s1.mono fun b hb=>.inl ?_),s2.trans hn,s3,?_,?_,fun b hb=>q2 b (s6 b hb),fun B hB y hy=>?_,?_⟩
 ·rcases List.mem_cons.1 hb with hb | hb
  ·rw [hb]
   exact List.mem_cons_self
  ·exact List.mem_cons_of_mem _ (q2 b hb)
 ·rw [List.map_cons, List.map_cons, List.map_cons, s4, ← hF]
  rfl
 ·rw[List.map_cons,List.map_cons,s5]
 ·rcases List.mem_cons.1 hy with rfl | hy
  ·have := hB a List.mem_cons_self
   exact⟨Nat.le_trans hll this.1,fun x hx=>this.2 x (hl x hx)⟩
  ·exact s7 B (fun y hy=>hB y (List.mem_cons_of_mem _ hy)) y hy
 ·rw [List.map_cons, List.map_cons, s8]
  show zb0 v'::_=_;rw[hb]
end
section
variable {n d mb ab L f:Nat}{Q:ARes→AHeap→Prop}{k:AHeap→R}{bv:AV}
theorem z39c(hn:1000000<n)(hL:L<1000):
  ∀(R P:List ArmT) (fu:Nat) (H:AHeap),R.length<fu→P.length+R.length=L→ArmsAt H ab (P++R)→RowH H mb z3c2 [.sl ab 0 L 2,bv,.int .i64 (f:Int)]→mb<H.next→mb ∉ ab::z57 (P++R)→z2a5 90001 R→
   (∀(H':AHeap) (R':List ArmT),Sub1 H H' ab R R' (z3f0 f) P→Wp (k H') Q)→Wp (z7a (world n (d+2)) (.ptr mb 0) (L:Int) k fu (P.length:Int) H) Q
 |_,_,0,_,hf,_,_,_,_,_,_,_=>by omega
 |[],P,fu+1,H,hf,hPL,ka,km,hm,hmd,hB,hk=>by
  have hPl:P.length=L:=hPL;rw[zc3];unfold z6c
  ((with_reducible refine Wp.lett ?_))
  refine y7 (by rw[decide_eq_false_iff_not];omega) ?_;exact hk H [] (Sub1.nil ka)
 |a::R,P,fu+1,H,hf,hPL,ka,km,hm,hmd,hB,hk=>by
  rw[List.length_cons] at hf hPL;have hPl:P.length<L:=by omega
  have hBa:=hB a List.mem_cons_self;obtain⟨k1,hab⟩:=ka.at;have c0:=y5 km (show ([.sl ab 0 L 2,bv,.int .i64 (f:Int)]:List AV)[0]? =some (.sl ab 0 L 2) from rfl);have c2:=y5 km (show ([.sl ab 0 L 2,bv,.int .i64 (f:Int)]:List AV)[2]? =some (.int .i64 (f:Int)) from rfl)
  obtain⟨v',H1,e1,q1,q2,q3,q4⟩:=forget_r (n:=n) (d:=d) (f:=f) k1 hab (by omega) (fun x hx=>by
   have:=hBa.2 x hx;omega) hn
  have hds:∀x∈z24c f a.l,x∈a.l:=fun x hx=>by
   obtain⟨j,_,e⟩:=z35b f a.l;rw[e] at hx;exact List.mem_of_mem_drop hx
  have hdl:(z24c f a.l).length≤a.l.length:=by
   obtain⟨j,_,e⟩:=z35b f a.l;rw[e,List.length_drop];omega
  obtain⟨o1,o2,o3⟩:=z3dd ka q1 q2 hds q4;have el:(P.length:Int)+1=((P.length+1:Nat):Int):=by omega
  have i1:=z1dc (b:=ab) hPl;rw[zc3];unfold z6c
  ((with_reducible refine Wp.lett ?_))
  refine y8 (by rw[decide_eq_true_eq];omega) ?_;refine Wp.obind (z12 _ _) (Wp.obind (z8 _ _ _) (Wp.obind c0 (Wp.obind i1 (Wp.obind (z12 _ _) (Wp.obind (z8 _ _ _) (Wp.obind c2 (Wp.obind (z5 _ _) (Wp.callN e1 ?_))))))))
  (((with_reducible refine yf ?_ ?_ ?_);omega;omega))
  rw[el];have re:∀X:List ArmT,(P++[{a with v:=v',l:=z24c f a.l}])++X=P++{a with v:=v',l:=z24c f a.l}::X:=fun X=>by simp
  have hP1:(P++[{a with v:=v',l:=z24c f a.l}]).length=P.length+1:=by rw[List.length_append,List.length_singleton]
  rw[←hP1];refine z39c hn hL R _ fu H1 (by omega) (by omega) (by rw[re];exact o1) (km.tch o3 hm hmd) (by omega) (fun hb=>hmd ?_) (fun y hy=>hB y (List.mem_cons_of_mem _ hy)) fun H' R' s=>hk H' _ (Sub1.cons ka q1 q2 hds hdl ?_ q4 q3 s)
  ·rw [re] at hb
   rcases List.mem_cons.1 hb with hb|hb
   ·rw [hb]
    exact List.mem_cons_self
   ·exact List.mem_cons_of_mem _ (o2 _ hb)
  ·rw [dropW_W]
   rfl
theorem z324(hL:L<1000):
  ∀(R P:List ArmT) (fu:Nat) (H:AHeap),R.length<fu→P.length+R.length=L→ArmsAt H ab (P++R)→RowH H mb z3c2 [.sl ab 0 L 2,bv,.int .i64 (f:Int)]→mb<H.next→mb ∉ ab::z57 (P++R)→
   (∀(H':AHeap) (R':List ArmT),Sub1 H H' ab R R' z325 P→Wp (k H') Q)→Wp (z6d (world n (d+1)) (.ptr mb 0) (L:Int) k fu (P.length:Int) H) Q
 |_,_,0,_,hf,_,_,_,_,_,_=>by omega
 |[],P,fu+1,H,hf,hPL,ka,km,hm,hmd,hk=>by
  have hPl:P.length=L:=hPL;rw[zb8];unfold z61
  ((with_reducible refine Wp.lett ?_))
  refine y7 (by rw[decide_eq_false_iff_not];omega) ?_;exact hk H [] (Sub1.nil ka)
 |a::R,P,fu+1,H,hf,hPL,ka,km,hm,hmd,hk=>by
  rw[List.length_cons] at hf hPL;have hPl:P.length<L:=by omega
  obtain⟨k1,hab⟩:=ka.at;obtain⟨p1,p2,p3,p4,p5,p6,p7,p8,p9,p10,p11,p12,p13,p14⟩:=id k1
  have hlen:0+P.length*2+1<(zac (P++a::R)).length:=by
   rw[z170,List.length_append,List.length_cons];omega
  have c0:=y5 km (show ([.sl ab 0 L 2,bv,.int .i64 (f:Int)]:List AV)[0]? =some (.sl ab 0 L 2) from rfl);obtain⟨v',H1,e1,q0,q1,q2,q3,q4⟩:=z1f4 (n:=n) (d:=d) (live:=0) p1 p4 p2 p5 (Nat.zero_le _) p11
  have q:ArmAt H1 ab (0+P.length*2) a.nb a.N ((zac (P++a::R)).set (0+P.length*2+1) v') v' []:=by
   refine⟨q0,by omega,?_,List.getElem?_set_self hlen,q1,(fun _ h=>nomatch h),p7.tch q4 p8 fun hb=>?_,by omega,.nil,(fun _ _ h=>nomatch h),(by rw[q2];exact p11),(fun h=>nomatch h),(by rw[q2];exact p13),(fun h=>nomatch h)⟩
   ·rw [List.getElem?_set_ne (by omega)]
    exact p3
   ·rcases List.mem_cons.1 hb with hb | hb
    ·exact hab hb.symm
    ·exact p13 hb
  obtain⟨o1,o2,o3⟩:=z3dd ka q q2 (fun _ h=>nomatch h) q4;have el:(P.length:Int)+1=((P.length+1:Nat):Int):=by omega
  have i1:=z1dc (b:=ab) hPl;rw[zb8];unfold z61
  ((with_reducible refine Wp.lett ?_))
  refine y8 (by rw[decide_eq_true_eq];omega) ?_;refine Wp.obind (z12 _ _) (Wp.obind (z8 _ _ _) (Wp.obind c0 (Wp.obind i1 (Wp.callN e1 ?_))))
  (((with_reducible refine yf ?_ ?_ ?_);omega;omega))
  rw[el];have re:∀X:List ArmT,(P++[{a with v:=v',l:=[]}])++X=P++{a with v:=v',l:=[]}::X:=fun X=>by simp
  have hP1:(P++[{a with v:=v',l:=[]}]).length=P.length+1:=by rw[List.length_append,List.length_singleton]
  rw[←hP1];refine z324 hL R _ fu H1 (by omega) (by omega) (by rw[re];exact o1) (km.tch o3 hm hmd) (by omega) (fun hb=>hmd ?_) fun H' R' s=>hk H' _ (Sub1.cons ka q q2 (fun _ h=>nomatch h) (Nat.zero_le _) rfl q4 q3 s);rw[re] at hb
  rcases List.mem_cons.1 hb with hb|hb
  ·rw [hb]
   exact List.mem_cons_self
  ·exact List.mem_cons_of_mem _ (o2 _ hb)
end
noncomputable def z3c5(ab L:Nat)(bv:AV)(g:Nat):List AV:=[.sl ab 0 L 2,bv,.int .i64 (g:Int)]
structure MatAt (h:AHeap) (mb ab:Nat) (az:List ArmT) (bv:AV) (u:z11) (g:Nat):Prop where
 row:RowH h mb z3c2 (z3c5 ab az.length bv g)
 hmb:mb<h.next
 arms:ArmsAt h ab az
 buf:BufAt h bv u
 m1:mb ∉ ab::z57 az
 m3:∀a∈az,a.nb≠mb
 b1:∀b∈zb0 bv,b≠mb∧b ∉ ab::z57 az∧∀a∈az,a.nb≠b
 len:az.length<1000
def z1f0(mb ab:Nat)(az:List ArmT)(bv:AV):List Nat:=mb::(zb0 bv++(ab::z57 az))
section
variable {h h':AHeap}{mb ab:Nat}{az:List ArmT}{bv:AV}{u:z11}{g:Nat}
theorem MatAt.lt(k:MatAt h mb ab az bv u g):∀b∈z1f0 mb ab az bv,b<h.next:=by
 intro b hb
 rcases List.mem_cons.1 hb with hb|hb
 ·rw [hb]
  exact k.hmb
 rcases List.mem_append.1 hb with hb|hb
 ·exact k.buf.lt b hb
 rcases List.mem_cons.1 hb with hb|hb
 ·rw [hb]
  exact k.arms.hab
 ·exact k.arms.lt b hb
theorem MatAt.tch{S:List Nat}(k:MatAt h mb ab az bv u g)(t:Tch S h h')(hS:∀b∈z1f0 mb ab az bv,b ∉ S)(hn:∀a∈az,a.nb ∉ S):MatAt h' mb ab az bv u g:=by
 obtain⟨k1,k2,k3,k4,k5,k6,k7,k8⟩:=k;refine⟨k1.tch t k2 (hS mb List.mem_cons_self),Nat.lt_of_lt_of_le k2 t.1,k3.tch t (hS ab ?_) hn (fun b hb=>hS b ?_),k4.tch t (fun b hb=>hS b ?_),k5,k6,k7,k8⟩
 ·exact List.mem_cons_of_mem _ (List.mem_append_right _ List.mem_cons_self)
 ·exact List.mem_cons_of_mem _ (List.mem_append_right _ (List.mem_cons_of_mem _ hb))
 ·exact List.mem_cons_of_mem _ (List.mem_append_left _ hb)
theorem z47f{b:Nat}(hb:b∈ab::z57 az):b∈z1f0 mb ab az bv:=List.mem_cons_of_mem _ (List.mem_append_right _ hb)
theorem bufB{b:Nat}(hb:b∈zb0 bv):b∈z1f0 mb ab az bv:=List.mem_cons_of_mem _ (List.mem_append_left _ hb)
theorem matB{b:Nat}(hb:b∈[mb]):b∈z1f0 mb ab az bv:=by rw[List.mem_singleton.1 hb];exact List.mem_cons_self
end
theorem idx_sl1{b m i:Nat}(h:i<m):z1a6 1 (.sl b 0 m 1) (i:Int)=some (.ptr b (0+i*1)):=by
 have e:Nat.blt i m=true:=by simpa using h
 show (match Nat.blt i m with|true=>some (AV.ptr b (0+i*1))|false=>none)=_;rw[e]
theorem buf_shift{u:z11}{rest:List AV}{m c0:Nat}(hu:u.length=m+1)(hc0:c0<256):(laid (z64 u++rest) 0 (z64 (u.drop 1))).set (0+m*1) (.int .u8 (c0:Int))=z64 (u.drop 1++[UInt8.ofNat c0])++rest:=by
 have h1:(z64 (u.drop 1)).length=m:=by rw[za7,List.length_drop];omega
 have h2:(z64 u).length=m+1:=by rw[za7,hu]
 unfold laid;rw[List.take_zero,List.nil_append,h1,Nat.zero_add,Nat.zero_add,Nat.mul_one,List.drop_append_of_le_length (by omega),List.set_append_right _ _ (by omega),h1,Nat.sub_self]
 obtain⟨x,hx⟩:∃x,(z64 u).drop m=[x]:=by
  have:=List.drop_eq_getElem_cons (l:=z64 u) (i:=m) (by omega);have e0:(z64 u).drop (m+1)=[]:=List.drop_of_length_le (by omega);rw[e0] at this;exact⟨_,this⟩
 rw[hx,z24f];show z64 (u.drop 1)++(AV.int .u8 (c0:Int)::rest)=z64 (u.drop 1)++[AV.int .u8 ((UInt8.ofNat c0).toNat:Int)]++rest;rw[UInt8.toNat_ofNat_of_lt' hc0,List.append_assoc];rfl
def z221(u:z11)(c:UInt8):z11:=if u.length<256 then u++[c] else u.drop 1++[c]
def z13a(u:z11)(g:Nat):Nat:=if u.length<256 then g else g+1
def z45c(u:z11)(g:Nat)(A:List z36a):List z36a:=if u.length<256 then A else A.map (z3f0 (g+1))
section
variable {n d mb ab g byte:Nat}{h:AHeap}{az:List ArmT}{bv:AV}{u:z11}
theorem keep_r(hn:1000000<n)(hby:byte<256)(k:MatAt h mb ab az bv u g)(hu:u.length≤256)(hB:z2a5 90001 az)(hg:g+u.length<90000)(hx:h.ex=[49]):
  ∃h' az' bv',world n (d+3) 13 [.ptr mb 0,.int .u8 (byte:Int)] h=some (.ret (.tup []),h')∧MatAt h' mb ab az' bv' (z221 u (UInt8.ofNat byte)) (z13a u g)∧az'.map zf1=z45c u g (az.map zf1)∧az'.map (·.nb)=az.map (·.nb)∧(∀b∈z1f0 mb ab az' bv',b∈z1f0 mb ab az bv∨h.next≤b)∧Tch (z1f0 mb ab az bv) h h'∧∀B,z2a5 B az→z2a5 B az':=by
 suffices hK:Wp (world n (d+3) 13 [.ptr mb 0,.int .u8 (byte:Int)] h) fun r h'=>∃az' bv',r=.ret (.tup [])∧MatAt h' mb ab az' bv' (z221 u (UInt8.ofNat byte)) (z13a u g)∧az'.map zf1=z45c u g (az.map zf1)∧az'.map (·.nb)=az.map (·.nb)∧(∀b∈z1f0 mb ab az' bv',b∈z1f0 mb ab az bv∨h.next≤b)∧Tch (z1f0 mb ab az bv) h h'∧∀B,z2a5 B az→z2a5 B az' by
  obtain⟨_,h',e,az',bv',rfl,k⟩:=hK;exact⟨h',az',bv',e,k⟩
 obtain⟨k1,k2,k3,k4,k5,k6,k7,k8⟩:=id k;rw[z1f8];unfold z80;have c1:=y5 k1 (show (z3c5 ab az.length bv g)[1]? =some bv from rfl);refine Wp.obind (z12 _ _) (Wp.obind (z8 _ _ _) (Wp.obind c1 (Wp.obind k4.len ?_)))
 ((with_reducible refine Wp.lett ?_))
 by_cases h256:u.length<256
 ·refine y8 (by rw [decide_eq_true_eq]; omega) ?_
  refine Wp.obind (z12 _ _) (Wp.obind (z8 _ _ _) (Wp.obind c1 ?_));refine y27 (Mem.nil [] h) (bldSlBy _ _) rfl (by rw[hx];rfl) fun h2 M2=>?_;have t2:=M2.tch;obtain⟨h3,e3,kb3,hlt3,t3⟩:=(k4.tch t2 (fun _ _=>by simp)).push M2.at0.1 hby (by omega) (by rw[t2.2.1,hx]);refine Wp.outK e3 ?_;refine Wp.obind (z12 _ _) (Wp.obind (z8 _ _ _) ?_);show Wp (Abs.obind (z17 h3 1 [AV.sl h2.next 0 (u.length+1) 1] (.ptr mb (0+1))) _) _;have n2:=t2.1;have hmbS:mb ∉ zb0 bv:=fun hb=>(k7 mb hb).1 rfl;have t03:Tch (zb0 bv) h h3:=(t2.mono fun b hb=>nomatch hb).trans t3;refine Wp.st1 (k1.tch t03 k2 hmbS) (show 0+1<3 by decide) rfl fun h4 k4' t4 n4=>?_;have hlt:=k.lt;have t04:Tch (mb::zb0 bv) h h4:=(t03.mono fun b hb=>.inl (List.mem_cons_of_mem _ hb)).trans (t4.mono fun b hb=>.inl (by rw[List.mem_singleton.1 hb];exact List.mem_cons_self))
  have arms4:ArmsAt h4 ab az:=k3.tch t04 (fun hb=>by
   rcases List.mem_cons.1 hb with hb|hb
   ·exact k5 (hb▸List.mem_cons_self)
   ·exact(k7 _ hb).2.1 List.mem_cons_self) (fun a ha hb=>by
   rcases List.mem_cons.1 hb with hb|hb
   ·exact k6 a ha hb
   ·exact(k7 _ hb).2.2 a ha rfl) (fun b hb' hb=>by
   rcases List.mem_cons.1 hb with hb|hb
   ·exact k5 (hb▸List.mem_cons_of_mem _ hb')
   ·exact(k7 _ hb).2.1 (List.mem_cons_of_mem _ hb'))
  have hab:=k3.hab;have e1:z221 u (UInt8.ofNat byte)=u++[UInt8.ofNat byte]:=if_pos h256;have e2:z13a u g=g:=if_pos h256;have e3:z45c u g (az.map zf1)=az.map zf1:=if_pos h256;rw[e1,e2,e3];refine Wp.ret ⟨az,.sl h2.next 0 (u.length+1) 1,rfl,⟨k4',by omega,arms4,kb3.tch t4 (fun b hb hm=>?_),k5,k6,fun b hb=>?_,k8⟩,rfl,rfl,fun b hb=>?_,t04.mono fun b hb=>.inl ?_,fun _ h=>h⟩
  ·have h1 := List.mem_singleton.1 hb
   have h2:=List.mem_singleton.1 hm;omega
  ·have hb := List.mem_singleton.1 hb
   subst hb;refine⟨by omega,fun hm=>?_,fun a ha e=>?_⟩
   ·have := hlt _ (z47f (mb := mb) (bv := bv) hm)
    omega
   ·have := (k3.net a ha).2.2
    omega
  ·rcases List.mem_cons.1 hb with hb | hb
   ·exact .inl (by rw[hb];exact List.mem_cons_self)
   rcases List.mem_append.1 hb with hb|hb
   ·right
    rw[List.mem_singleton.1 hb];exact n2
   ·exact .inl (z47f hb)
  ·rcases List.mem_cons.1 hb with hb | hb
   ·rw [hb]
    exact List.mem_cons_self
   ·exact bufB hb
 ·have hul : u.length = 255 + 1 := by omega
  refine y7 (by rw[decide_eq_false_iff_not];omega) ?_
  rcases k4 with⟨rfl,rfl⟩|⟨c,rest,rfl,kc,hc⟩
  ·cases hul
  obtain⟨b1,b2,b3⟩:=k7 c (List.mem_singleton.2 rfl);have he:Abs.elemOf Tryd.prog TBy=some 5:=by kernel_rfl
  have hi:(Tryd.prog.info? 5).isSome=true:=by kernel_rfl
  have hsz:Tryd.prog.cellsOf 5=1:=by kernel_rfl
  have hbl:=za7 u;have s1:=z25e (P:=Tryd.prog) (h:=h) (b:=c) (o:=0) (m:=u.length) (l1:=1) (k1:=.i64) he hi hsz (by omega) (by omega)
  have ecp:((z64 u++rest).drop (1*1)).take ((u.length - 1)*1)=z64 (u.drop 1):=by
   rw[List.drop_append_of_le_length (by omega),Nat.mul_one,z401];exact List.take_left' (by rw[za7,List.length_drop,Nat.mul_one])
  obtain⟨h2,e2,q2,n2,t2⟩:=z3b4 (m:=u.length) (j:=1) he hi hsz kc (by rw[List.length_append];omega) (by omega) (by rw[ecp];exact z32d _);rw[ecp] at q2;have hmc:mb≠c:=fun e=>b1 e.symm;have row2:=k1.tch t2 k2 (by simpa using hmc);have d1:=y5 row2 (show (z3c5 ab az.length (.sl c 0 u.length 1) g)[1]? =some (.sl c 0 u.length 1) from rfl);refine Wp.obind (z12 _ _) (Wp.obind (z8 _ _ _) (Wp.obind c1 (Wp.obind (z12 _ _) (Wp.obind (z8 _ _ _) (Wp.obind c1 (Wp.outK s1 (Wp.outK e2 (Wp.obind (z5 _ _) ?_))))))));refine Wp.obind (z12 _ _) (Wp.obind (z8 _ _ _) (Wp.obind d1 (Wp.obind (z12 _ _) (Wp.obind (z8 _ _ _) (Wp.obind d1 (Wp.obind (show z153 (.sl c 0 u.length 1)=some (u.length:Int) from rfl) ?_))))))
  (((with_reducible refine yf ?_ ?_ ?_);omega;omega))
  have i1:=idx_sl1 (b:=c) (m:=u.length) (i:=255) (by omega);rw[show ((255:Nat):Int)=(u.length:Int) - 1 by omega] at i1;refine Wp.obind i1 ?_
  have hll:255<(laid (z64 u++rest) 0 (z64 (u.drop 1))).length:=by
   rw[z12a (by rw[za7,List.length_drop,List.length_append];omega),List.length_append];omega
  refine Wp.st1 q2 (by omega) rfl fun h3 q3 t3 n3=>?_;rw[buf_shift hul hby] at q3;have row3:=row2.tch t3 (by omega) (by simpa using hmc);have d2:=y5 row3 (show (z3c5 ab az.length (.sl c 0 u.length 1) g)[2]? =some (.int .i64 (g:Int)) from rfl);refine Wp.obind (z12 _ _) (Wp.obind (z8 _ _ _) (Wp.obind d2 (Wp.obind (z5 _ _) ?_)))
  (((with_reducible refine yf ?_ ?_ ?_);omega;omega))
  refine Wp.obind (z12 _ _) (Wp.obind (z8 _ _ _) ?_);refine Wp.st1 row3 (show 0+2<3 by decide) rfl fun h4 row4 t4 n4=>?_;have eg:(g:Int)+1=((g+1:Nat):Int):=by omega
  rw[eg] at row4;have row4':RowH h4 mb z3c2 [.sl ab 0 az.length 2,.sl c 0 u.length 1,.int .i64 ((g+1:Nat):Int)]:=row4;have d3:=y5 row4' (show ([.sl ab 0 az.length 2,.sl c 0 u.length 1,.int .i64 ((g+1:Nat):Int)]:List AV)[0]? =some (.sl ab 0 az.length 2) from rfl);refine Wp.obind (z12 _ _) (Wp.obind (z8 _ _ _) (Wp.obind d3 (Wp.obind (show z153 (.sl ab 0 az.length 2)=some (az.length:Int) from rfl) ?_)));refine y14 fun k60 ek=>?_;have t23:Tch [c] h h3:=t2.trans t3;have t04:Tch [mb,c] h h4:=(t23.mono fun b hb=>.inl (by rw[List.mem_singleton.1 hb];simp)).trans (t4.mono fun b hb=>.inl (by rw[List.mem_singleton.1 hb];simp))
  have two:∀{b},b∈[mb,c]→b=mb∨b=c:=fun hb=>by
   rcases List.mem_cons.1 hb with hb|hb
   ·exact .inl hb
   ·exact .inr (List.mem_singleton.1 hb)
  have arms4:ArmsAt h4 ab az:=k3.tch t04 (fun hb=>by
   rcases two hb with hb|hb
   ·exact k5 (hb▸List.mem_cons_self)
   ·exact b2 (hb▸List.mem_cons_self)) (fun a ha hb=>by
   rcases two hb with hb|hb
   ·exact k6 a ha hb
   ·exact b3 a ha hb) (fun b hb' hb=>by
   rcases two hb with hb|hb
   ·exact k5 (hb▸List.mem_cons_of_mem _ hb')
   ·exact b2 (hb▸List.mem_cons_of_mem _ hb'))
  refine z39c (n:=n) (d:=d) (L:=az.length) (f:=g+1) hn k8 az [] n h4 (by omega) (by simp) arms4 row4' (by omega) k5 hB fun H' R' s=>?_;obtain⟨w1,w2,w3,w4,w5,w6,w7,w8⟩:=s;rw[List.nil_append] at w1 w3 w6;rw[List.nil_append] at w6;rw[ek]
  have hlR:R'.length=az.length:=by
   have:=congrArg List.length w5;rw[List.length_map,List.length_map] at this;exact this
  have nbR:∀a∈R',∃w∈az,w.nb=a.nb:=fun a ha=>by
   have:a.nb∈R'.map (·.nb):=List.mem_map_of_mem ha;rw[w5] at this;exact List.mem_map.1 this
  have sub:∀b∈ab::z57 R',b∈ab::z57 az:=fun b hb=>by
   rcases List.mem_cons.1 hb with hb|hb
   ·rw [hb]
    exact List.mem_cons_self
   ·exact List.mem_cons_of_mem _ (w6 b hb)
  have hcl:c<h4.next:=by omega
  have kc4:=(q3.tch t4 (by omega) (by simpa using hmc.symm)).tch w1 hcl b2;have e1:z221 u (UInt8.ofNat byte)=u.drop 1++[UInt8.ofNat byte]:=if_neg h256;have e2:z13a u g=g+1:=if_neg h256;have e3:z45c u g (az.map zf1)=(az.map zf1).map (z3f0 (g+1)):=if_neg h256;have eul:(u.drop 1++[UInt8.ofNat byte]).length=u.length:=by rw[List.length_append,List.length_singleton,List.length_drop];omega
  rw[e1,e2,e3];refine Wp.ret ⟨R',.sl c 0 u.length 1,rfl,⟨?_,by omega,w3,.inr ⟨c,rest,by rw[eul],kc4,by omega⟩,fun hb=>k5 (sub _ hb),fun a ha e=>?_,fun b hb=>?_,by omega⟩,w4,w5,fun b hb=>?_,?_,w7⟩
  ·rw [hlR]
   exact row4'.tch w1 (by omega) k5
  ·obtain ⟨w, hw, e'⟩ := nbR a ha
   exact k6 w hw (e'.trans e)
  ·have hb := List.mem_singleton.1 hb
   subst hb;refine⟨b1,fun hm=>b2 (sub _ hm),fun a ha e=>?_⟩;obtain⟨w,hw,e'⟩:=nbR a ha;exact b3 w hw (e'.trans e)
  ·left
   rcases List.mem_cons.1 hb with hb|hb
   ·rw [hb]
    exact List.mem_cons_self
   rcases List.mem_append.1 hb with hb|hb
   ·exact bufB hb
   ·exact z47f (sub b hb)
  ·refine (t04.mono fun b hb => .inl ?_).trans (w1.mono fun b hb => .inl (z47f hb))
   rcases two hb with hb|hb
   ·rw [hb]
    exact List.mem_cons_self
   ·rw [hb]
    exact bufB (List.mem_singleton.2 rfl)
theorem empty_r(hn:1000000<n)(k:MatAt h mb ab az bv u g):
  ∃h' az' bv',world n (d+2) 15 [.ptr mb 0] h=some (.ret (.tup []),h')∧MatAt h' mb ab az' bv' [] 0∧az'.map zf1=(az.map zf1).map z325∧az'.map (·.nb)=az.map (·.nb)∧(∀b∈z1f0 mb ab az' bv',b∈z1f0 mb ab az bv)∧h'.next=h.next∧Tch (z1f0 mb ab az bv) h h':=by
 suffices hK:Wp (world n (d+2) 15 [.ptr mb 0] h) fun r h'=>∃az' bv',r=.ret (.tup [])∧MatAt h' mb ab az' bv' [] 0∧az'.map zf1=(az.map zf1).map z325∧az'.map (·.nb)=az.map (·.nb)∧(∀b∈z1f0 mb ab az' bv',b∈z1f0 mb ab az bv)∧h'.next=h.next∧Tch (z1f0 mb ab az bv) h h' by
  obtain⟨_,h',e,az',bv',rfl,k⟩:=hK;exact⟨h',az',bv',e,k⟩
 obtain⟨k1,k2,k3,k4,k5,k6,k7,k8⟩:=id k;rw[z1c7];unfold z73;have c1:=y5 k1 (show (z3c5 ab az.length bv g)[1]? =some bv from rfl)
 obtain⟨v8,s1,hb8,kb8,hc8⟩:∃v8,zbc Tryd.prog h TBy bv none (some (.int .i64 ((0:Nat):Int)))=some (.val v8,h)∧zb0 v8=zb0 bv∧BufAt h v8 []∧v8.one=true∧AV.cells v8=[v8]:=by
  rcases k4 with⟨rfl,rfl⟩|⟨c,rest,rfl,kc,hc⟩
  ·exact⟨.nsl,by kernel_rfl,rfl,.inl ⟨rfl,rfl⟩,rfl,rfl⟩
  ·exact⟨.sl c 0 0 1,z410 (P:=Tryd.prog) (e:=5) (k1:=.i64) (by kernel_rfl) (by kernel_rfl) (by kernel_rfl) (Nat.zero_le _),rfl,.inr ⟨c,z64 u++rest,rfl,kc,hc⟩,rfl,rfl⟩
 refine Wp.obind (z12 _ _) (Wp.obind (z8 _ _ _) (Wp.obind c1 (Wp.outK s1 (Wp.obind (z12 _ _) (Wp.obind (z8 _ _ _) ?_)))));rw[hc8.2];refine Wp.st1 k1 (show 0+1<3 by decide) hc8.1 fun h2 r2 t2 n2=>?_;refine Wp.obind (z12 _ _) (Wp.obind (z8 _ _ _) ?_);refine Wp.st1 r2 (show 0+2<3 by decide) rfl fun h3 r3 t3 n3=>?_;have r3':RowH h3 mb z3c2 [.sl ab 0 az.length 2,v8,.int .i64 ((0:Nat):Int)]:=r3;have d3:=y5 r3' (show ([.sl ab 0 az.length 2,v8,.int .i64 ((0:Nat):Int)]:List AV)[0]? =some (.sl ab 0 az.length 2) from rfl);refine Wp.obind (z12 _ _) (Wp.obind (z8 _ _ _) (Wp.obind d3 (Wp.obind (show z153 (.sl ab 0 az.length 2)=some (az.length:Int) from rfl) ?_)));refine y14 fun k22 ek=>?_;have t03:Tch [mb] h h3:=t2.trans t3;have arms3:ArmsAt h3 ab az:=k3.tch t03 (fun hb=>k5 (List.mem_singleton.1 hb▸List.mem_cons_self)) (fun a ha hb=>k6 a ha (List.mem_singleton.1 hb)) (fun b hb' hb=>k5 (List.mem_singleton.1 hb▸List.mem_cons_of_mem _ hb'));refine z324 (n:=n) (d:=d) (L:=az.length) (f:=0) k8 az [] n h3 (by omega) (by simp) arms3 r3' (by omega) k5 fun H' R' s=>?_;obtain⟨w1,w2,w3,w4,w5,w6,w7,w8⟩:=s;rw[List.nil_append] at w1 w3 w6;rw[List.nil_append] at w6;rw[ek]
 have hlR:R'.length=az.length:=by
  have:=congrArg List.length w5;rw[List.length_map,List.length_map] at this;exact this
 have nbR:∀a∈R',∃w∈az,w.nb=a.nb:=fun a ha=>by
  have:a.nb∈R'.map (·.nb):=List.mem_map_of_mem ha;rw[w5] at this;exact List.mem_map.1 this
 have sub:∀b∈ab::z57 R',b∈ab::z57 az:=fun b hb=>by
  rcases List.mem_cons.1 hb with hb|hb
  ·rw [hb]
   exact List.mem_cons_self
  ·exact List.mem_cons_of_mem _ (w6 b hb)
 have kb3:=kb8.tch t03 (fun b hb hm=>by
  rw[hb8] at hb;exact(k7 b hb).1 (List.mem_singleton.1 hm))
 refine Wp.ret ⟨R',v8,rfl,⟨?_,by omega,w3,kb3.tch w1 (fun b hb=>by rw[hb8] at hb;exact(k7 b hb).2.1),fun hb=>k5 (sub _ hb),fun a ha e=>?_,fun b hb=>?_,by omega⟩,w4,w5,fun b hb=>?_,by omega,?_⟩
 ·rw [hlR]
  exact r3'.tch w1 (by omega) k5
 ·obtain ⟨w, hw, e'⟩ := nbR a ha
  exact k6 w hw (e'.trans e)
 ·rw [hb8] at hb
  obtain⟨b1,b2,b3⟩:=k7 b hb;refine⟨b1,fun hm=>b2 (sub _ hm),fun a ha e=>?_⟩;obtain⟨w,hw,e'⟩:=nbR a ha;exact b3 w hw (e'.trans e)
 ·rcases List.mem_cons.1 hb with hb | hb
  ·rw [hb]
   exact List.mem_cons_self
  rcases List.mem_append.1 hb with hb|hb
  ·rw [hb8] at hb
   exact bufB hb
  ·exact z47f (sub b hb)
 ·exact(t03.mono fun b hb=>.inl (matB hb)).trans (w1.mono fun b hb=>.inl (z47f hb))
end
abbrev MS:=List z36a×z11×Nat
def z49(m:MS)(c:UInt8):MS:=(z45c m.2.1 m.2.2 m.1,z221 m.2.1 c,z13a m.2.1 m.2.2)
def atM(m:MS):Nat:=m.2.2+m.2.1.length - 1
def zda:MS→z11→Nat→Nat×Option (Nat×Int×Nat)×MS
 |m,[],i=>(i,none,m)
 |m,c::s,i=>match (z5d c.toNat (atM (z49 m c)) (z49 m c).1).1 with
  |some z=>(i+1,some (z.1,(z.2:Int) - ((z49 m c).2.2:Int),(z49 m c).2.1.length),((z5d c.toNat (atM (z49 m c)) (z49 m c).1).2.map z325,[],0))
  |none=>zda ((z5d c.toNat (atM (z49 m c)) (z49 m c).1).2,(z49 m c).2.1,(z49 m c).2.2) s (i+1)
noncomputable def z3b1:Option (Nat×Int×Nat)→List AV
 |some z=>[.int .i64 (z.1:Int),.int .i64 z.2.1,.int .i64 (z.2.2:Int)]
 |none=>[.int .i64 0,.int .i64 0,.int .i64 0]
theorem feedC_len(r:Option (Nat×Int×Nat)):(z3b1 r).length=3:=by cases r<;>rfl
theorem feedC_one(r:Option (Nat×Int×Nat)):(z3b1 r).all AV.one=true:=by cases r<;>rfl
theorem z39e{u:z11}{c:UInt8}(h:u.length≤256):(z221 u c).length≤256∧1≤(z221 u c).length:=by
 unfold z221
 split<;>rw[List.length_append,List.length_singleton]
 ·omega
 ·rw [List.length_drop]
  omega
theorem z39f{m:MS}{c:UInt8}(h:m.2.1.length≤256):(z49 m c).2.2+(z49 m c).2.1.length=m.2.2+m.2.1.length+1:=by
 show z13a m.2.1 m.2.2+(z221 m.2.1 c).length=_;unfold z13a z221
 split<;>rw[List.length_append,List.length_singleton]
 ·omega
 ·rw [List.length_drop]
  omega
theorem hitW_lt{N:Nt}{c B:Nat}:∀(l:List WayW) (a:Option Nat) (f:Nat),(∀x∈l,x.2<B)→(∀g,a=some g→g<B)→hitW N c a l=some f→f<B
 |[],a,f,_,ha,h=>ha f h
 |x::l,a,f,hl,ha,h=>by
  refine hitW_lt l (accW N c a x) f (fun y hy=>hl y (List.mem_cons_of_mem _ hy)) (fun g hg=>?_) h
  cases a with
  |some k=>exact ha g hg
  |none=>
   have hg:(if z278 N (stepN N x.1 c)=true then some x.2 else none)=some g:=hg
   split at hg
   ·cases hg
    exact hl x List.mem_cons_self
   ·cases hg
theorem z40f{c B:Nat}:∀(A:List z36a) (z:Nat×Nat),(∀a∈A,∀x∈a.2,x.2<B)→(z5d c B A).1=some z→z.2<B+1∧z.1<A.length
 |[],z,_,h=>by cases h
 |a::A,z,hA,h=>by
  rw[z5d] at h
  split at h
  ·rename_i f hf
   cases h;refine⟨hitW_lt _ none f (fun x hx=>?_) (fun g hg=>by cases hg) hf,Nat.succ_pos _⟩
   rcases List.mem_append.1 hx with hx|hx
   ·exact Nat.lt_succ_of_lt (hA a List.mem_cons_self x hx)
   ·rw [List.mem_singleton.1 hx]
    exact Nat.lt_succ_self _
  ·cases hr : (z5d c B A).1 with
   |none=>
    have h2:Option.map _ (z5d c B A).1=some z:=h;rw[hr] at h2;cases h2
   |some w=>
    have h2:Option.map _ (z5d c B A).1=some z:=h;rw[hr] at h2;cases h2;have:=z40f A w (fun a ha=>hA a (List.mem_cons_of_mem _ ha)) hr;exact⟨this.1,by show w.1+1<_;rw[List.length_cons];omega⟩
def MatS(h:AHeap)(mb ab:Nat)(S nbs:List Nat)(m:MS):Prop:=∃az bv,MatAt h mb ab az bv m.2.1 m.2.2∧az.map zf1=m.1∧S=z1f0 mb ab az bv∧nbs=az.map (·.nb)∧m.2.1.length≤256∧z2a5 (m.2.2+m.2.1.length) az∧True
section
variable {h h':AHeap}{mb ab:Nat}{S nbs:List Nat}{m:MS}
theorem MatS.tch{T:List Nat}(k:MatS h mb ab S nbs m)(t:Tch T h h')(hS:∀b∈S,b ∉ T)(hn:∀b∈nbs,b ∉ T):MatS h' mb ab S nbs m:=by
 obtain⟨az,bv,k1,k2,rfl,rfl,k5⟩:=k;exact⟨az,bv,k1.tch t hS (fun a ha=>hn _ (List.mem_map_of_mem ha)),k2,rfl,rfl,k5⟩
theorem MatS.lt(k:MatS h mb ab S nbs m):∀b∈S,b<h.next:=by
 obtain⟨az,bv,k1,k2,rfl,_⟩:=k;exact k1.lt
theorem MatS.tz(k:MatS h mb ab S nbs m)(hT:HasTz h):0 ∉ S:=by
 obtain⟨az,bv,k1,k2,rfl,_⟩:=k;intro hb
 rcases List.mem_cons.1 hb with hb|hb
 ·exact z22c hT k1.row hb
 rcases List.mem_append.1 hb with hb|hb
 ·rcases k1.buf with ⟨rfl, _⟩ | ⟨c, rest, rfl, kc, _⟩
  ·exact nomatch hb
  ·exact z22c hT kc (List.mem_singleton.1 hb)
 ·exact k1.arms.tz hT hb
end
set_option maxRecDepth 100000 in
theorem z3d3{h:AHeap}{b:Nat}(k:RowH h b z36d [.int .i64 0,.int .i64 0,.int .i64 0]):z3d4 h b z36d [.int .i64 0,.int .i64 0,.int .i64 0]=true:=by
 obtain⟨t,h1,h2⟩:=k;have e0:t.get 0=some (.int .i64 0):=h2 0 (by decide);have e1:t.get 1=some (.int .i64 0):=h2 1 (by decide);have e2:t.get 2=some (.int .i64 0):=h2 2 (by decide)
 have e3:t.take 0 3=some [.int .i64 0,.int .i64 0,.int .i64 0]:=by
  simp only[T.take,e0,e1,e2]
 unfold z3d4;rw[h1];show (Nat.beq 3 3&&Nat.beq z36d z36d&&z2b4 (t.take 0 3) _)=true;rw[e3];rfl
theorem eqMat(b o:Nat)(h:AHeap):zc1 Tryd.prog h .eql 24 true (some (.ptr b o)) (some AV.nilp)=some (.val (.bool false),h):=by kernel_rfl
theorem z4a3(h:AHeap):zc1 Tryd.prog h .eql 24 true (some AV.nilp) (some AV.nilp)=some (.val (.bool true),h):=by kernel_rfl
section
variable {n d mb ab:Nat}{h:AHeap}{S nbs:List Nat}{s:z11}{m:MS}{Q:ARes→AHeap→Prop}{k16:AHeap→R}
theorem z3af(hn:18446744073709551616<n)(hsl:s.length<80000):
  ∀(k i fu:Nat) (m:MS) (S:List Nat) (H:AHeap),k<fu→i+k=s.length→m.2.2+m.2.1.length+k<80000→MatS H mb ab S nbs m→HasTz H→H.ex=[49]→RowH H h.next z36d [.int .i64 0,.int .i64 0,.int .i64 0]→h.next<H.next→h.next ∉ S→(∀b∈nbs,b≠h.next)→
   (∀H' S',(zda m (s.drop i) i).2.1=none→MatS H' mb ab S' nbs (zda m (s.drop i) i).2.2→Tch S H H'→(∀b∈S',b∈S∨H.next≤b)→(zda m (s.drop i) i).1=s.length→Wp (k16 H') Q)→
   (∀H' S' z,(zda m (s.drop i) i).2.1=some z→MatS H' mb ab S' nbs (zda m (s.drop i) i).2.2→Tch (h.next::S) H H'→(∀b∈S',b∈S∨H.next≤b)→Q (.ret (.tup [.int .i64 ((zda m (s.drop i) i).1:Int),.agg (z3b1 (some z)),.bool true])) H')→
   Wp (z7b (world n (d+5)) (.ptr mb 0) s h k16 fu (i:Int) H) Q
 |_,_,0,_,_,_,hf,_,_,_,_,_,_,_,_,_,_,_=>by omega
 |0,i,fu+1,m,S,H,hf,hm,hb,km,hT,hx,kh,hh,hS,hnb,hk,hq=>by
  have ll:=z6a s;rw[zc4];unfold z6e
  repeat(first|(with_reducible refine Wp.lett ?_)|((with_reducible refine y7 ?_ ?_;apply decide_eq_false);omega))
  have e:s.drop i=[]:=List.drop_of_length_le (by omega);rw[e] at hk;exact hk H S rfl km (Tch.refl _ _) (fun b hb=>.inl hb) (by show i=_;omega)
 |k+1,i,fu+1,m,S,H,hf,hm,hb,km,hT,hx,kh,hh,hS,hnb,hk,hq=>by
  have ll:=z6a s;have hi:i<s.length:=by omega
  have hxs:=z2a1 hi;have el:(i:Int)+1=((i+1:Nat):Int):=by omega
  rw[List.drop_eq_getElem_cons hi] at hk hq
  generalize hc:s[i]=c at hk hq hxs
  have hcb:c.toNat<256:=c.toNat_lt;have hTS:=km.tz hT;obtain⟨az,bv,k1,k2,eS,eN,k5,k6,k7⟩:=km;subst eS
  obtain⟨h1,az1,bv1,e1,m1,a1,n1,s1,t1,b1⟩:=keep_r (n:=n) (d:=d+2) (by omega) hcb k1 k5 (fun a ha=>by
   have:=k6 a ha;exact⟨by omega,fun x hx=>by have:=this.2 x hx;omega⟩) (by omega) hx
  rw[UInt8.ofNat_toNat] at m1;have hl1:=z39f (m:=m) (c:=c) k5;obtain⟨hu1,hu2⟩:=z39e (c:=c) k5
  have e2:z49 m c=(az1.map zf1,z221 m.2.1 c,z13a m.2.1 m.2.2):=by
   show (z45c m.2.1 m.2.2 m.1,_,_)=_;rw[a1,k2]
  have hB1:z2a5 (atM (z49 m c)) az1:=by
   have:atM (z49 m c)=m.2.2+m.2.1.length:=by
    unfold atM;omega
   rw[this];exact b1 _ k6
  have hat:((z13a m.2.1 m.2.2:Nat):Int)+((z221 m.2.1 c).length:Int) - 1=((atM (z49 m c):Nat):Int):=by
   unfold atM;show _=((z13a m.2.1 m.2.2+(z221 m.2.1 c).length - 1:Nat):Int);omega
  have hatl:atM (z49 m c)<80000:=by
   unfold atM;omega
  have kh1:=kh.tch t1 hh hS;have hh1:h.next<h1.next:=Nat.lt_of_lt_of_le hh t1.1;have hT1:=hT.tch t1 hTS;have hx1:h1.ex=[49]:=by rw[t1.2.1,hx]
  have r1:=m1.row;have c2:=y5 r1 (show (z3c5 ab az1.length bv1 (z13a m.2.1 m.2.2))[2]? =some (.int .i64 ((z13a m.2.1 m.2.2:Nat):Int)) from rfl);have c1:=y5 r1 (show (z3c5 ab az1.length bv1 (z13a m.2.1 m.2.2))[1]? =some bv1 from rfl);have c0:=y5 r1 (show (z3c5 ab az1.length bv1 (z13a m.2.1 m.2.2))[0]? =some (.sl ab 0 az1.length 2) from rfl)
  have hS1:∀b∈z1f0 mb ab az1 bv1,b≠h.next:=fun b hb e=>by
   rcases s1 b hb with hb|hb
   ·exact hS (e▸hb)
   ·omega
  have hnb1:∀a∈az1,a.nb≠h.next:=fun a ha=>hnb _ (by rw[eN, ←n1];exact List.mem_map_of_mem ha);rw[zc4];unfold z6e
  ((with_reducible refine Wp.lett ?_))
  refine y8 (by rw[decide_eq_true_eq];omega) ?_;refine Wp.obind hxs (Wp.callN e1 (Wp.obind (z12 _ _) (Wp.obind (z8 _ _ _) (Wp.obind c2 (Wp.obind (z5 _ _) (Wp.obind (z12 _ _) (Wp.obind (z8 _ _ _) (Wp.obind c1 (Wp.obind m1.buf.len ?_)))))))))
  have hgk:z13a m.2.1 m.2.2≤m.2.2+1:=by
   unfold z13a
   split<;>omega
  (((with_reducible refine yf ?_ ?_ ?_);omega;omega))
  (((with_reducible refine yf ?_ ?_ ?_);omega;omega))
  rw[hat];refine Wp.obind (z12 _ _) (Wp.obind (z8 _ _ _) (Wp.obind c0 (Wp.obind hxs ?_)));refine y9 (Mem.nil [] h1) fun h2 M2=>?_;have t2:=M2.tch;have q2:=M2.at0.1;have hq2:=M2.at0.2.1;have arms2:=m1.arms.tch t2 (by simp) (fun _ _=>by simp) (fun _ _=>by simp);obtain⟨h3,R',e3,t3,k3,b3,a3,n3,s3,w3⟩:=z27f (n:=n) (d:=d) (byte:=c.toNat) (at_:=atM (z49 m c)) hn hcb (by omega) m1.len arms2 hB1 (hT1.tch t2 (by simp)) (by rw[t2.2.1,hx1]);refine Wp.callN e3 ?_
  have hqS:h1.next ∉ ab::z57 az1:=fun hb=>by
   have:=m1.lt _ (z47f (mb:=mb) (bv:=bv1) hb);omega
  have q3:=q2.tch t3 hq2 hqS;refine Wp.chk (z174 (z3d3 q3) rfl) ?_;refine Wp.obind (zd9 _ _) (Wp.obind (z13 _) (Wp.obind (zd8 _ _ _) (Wp.obind (z6 _) ?_)));rw[z10];have hfl:∀r,(z45d 0 (atM (z49 m c)) r).length=3∧(z45d 0 (atM (z49 m c)) r).all AV.one=true:=fun r=>by cases r<;>exact⟨rfl,rfl⟩
  have hq3:h1.next<h3.next:=Nat.lt_of_lt_of_le hq2 t3.1;refine Wp.stAll q3 (hfl _).1 rfl (hfl _).2 fun h4 q4 t4 n4=>?_
  -- the matcher behind the step
  have n12:=t2.1;have n23:=t3.1;have lt1:=m1.lt
  have nbR:∀a∈R',∃w∈az1,w.nb=a.nb:=fun a ha=>by
   have:a.nb∈R'.map (·.nb):=List.mem_map_of_mem ha;rw[n3] at this;exact List.mem_map.1 this
  have hlR:R'.length=az1.length:=by
   have:=congrArg List.length n3;rw[List.length_map,List.length_map] at this;exact this
  have sub3:∀b∈ab::z57 R',b∈ab::z57 az1∨h2.next≤b:=fun b hb=>by
   rcases List.mem_cons.1 hb with hb|hb
   ·rw [hb]
    exact .inl List.mem_cons_self
   ·exact(s3 b hb).imp (fun h=>List.mem_cons_of_mem _ h) id
  have t14:Tch (ab::z57 az1) h1 h4:=((t2.mono fun b hb=>nomatch hb).trans t3).trans' t4 fun b hb=>by
   rw[List.mem_singleton.1 hb];exact .inr (Nat.le_refl _)
  have m4:MatAt h4 mb ab R' bv1 (z221 m.2.1 c) (z13a m.2.1 m.2.2):=by
   refine⟨?_,Nat.lt_of_lt_of_le m1.hmb t14.1,k3.tch t4 ?_ (fun a ha hm=>?_) (fun b hb hm=>?_),m1.buf.tch t14 (fun b hb=>(m1.b1 b hb).2.1),fun hb=>?_,fun a ha e=>?_,fun b hb=>?_,?_⟩
   ·rw [hlR]
    exact r1.tch t14 m1.hmb m1.m1
   ·intro hm
    have:=m1.arms.hab;have:=List.mem_singleton.1 hm;omega
   ·obtain ⟨w, hw, e⟩ := nbR a ha
    have:=(m1.arms.net w hw).2.2;have:=List.mem_singleton.1 hm;omega
   ·have hm := List.mem_singleton.1 hm
    rcases s3 b hb with hb|hb
    ·have := lt1 b (z47f (List.mem_cons_of_mem _ hb))
     omega
    ·omega
   ·rcases sub3 _ hb with hb | hb
    ·exact m1.m1 hb
    ·have := m1.hmb
     omega
   ·obtain ⟨w, hw, e'⟩ := nbR a ha
    exact m1.m3 w hw (e'.trans e)
   ·obtain ⟨p1, p2, p3⟩ := m1.b1 b hb
    refine⟨p1,fun hm=>?_,fun a ha e=>?_⟩
    ·rcases sub3 _ hm with hm | hm
     ·exact p2 hm
     ·have := lt1 b (bufB hb)
      omega
    ·obtain ⟨w, hw, e'⟩ := nbR a ha
     exact p3 w hw (e'.trans e)
   ·rw [hlR]
    exact m1.len
  have subM:∀b∈z1f0 mb ab R' bv1,b∈z1f0 mb ab az1 bv1∨h1.next≤b:=fun b hb=>by
   rcases List.mem_cons.1 hb with hb|hb
   ·exact .inl (by rw[hb];exact List.mem_cons_self)
   rcases List.mem_append.1 hb with hb|hb
   ·exact .inl (bufB hb)
   ·exact(sub3 b hb).imp z47f (fun h=>by omega)
  have tA:Tch (z1f0 mb ab az bv) H h4:=t1.trans' t14 fun b hb=>s1 b (z47f hb);have hle:H.next≤h1.next:=t1.1
  have subA:∀b∈z1f0 mb ab R' bv1,b∈z1f0 mb ab az bv∨H.next≤b:=fun b hb=>by
   rcases subM b hb with hb|hb
   ·exact s1 b hb
   ·exact .inr (by omega)
  have hph:h.next<h4.next:=by
   have:=t14.1;omega
  have hpS:h.next ∉ z1f0 mb ab R' bv1:=fun hb=>by
   rcases subA _ hb with hb|hb
   ·exact hS hb
   ·omega
  have kh4:RowH h4 h.next z36d [.int .i64 0,.int .i64 0,.int .i64 0]:=kh1.tch t14 hh1 fun hb=>hS1 _ (z47f hb) rfl;have hT4:HasTz h4:=hT1.tch t14 (m1.arms.tz hT1);have nbs1:nbs=R'.map (·.nb):=by rw[eN,n3,n1]
  cases hz:(z5d c.toNat (atM (z49 m c)) (az1.map zf1)).1 with
  |some z=>
   rw[hz] at q4;refine y8 rfl ?_
   have hzb:=z40f (c:=c.toNat) (B:=atM (z49 m c)) (az1.map zf1) z (fun a ha x hx=>by
    obtain⟨y,hy,rfl⟩:=List.mem_map.1 ha;obtain⟨w,hw,rfl⟩:=List.mem_map.1 hx;exact(hB1 y hy).2 w hw) hz
   have r4:=m4.row;have c24:=y5 r4 (show (z3c5 ab R'.length bv1 (z13a m.2.1 m.2.2))[2]? =some (.int .i64 ((z13a m.2.1 m.2.2:Nat):Int)) from rfl)
   have hqm:h1.next≠mb:=by
    have:=m1.hmb;omega
   have hz2:=hzb.1;refine Wp.obind (y5 q4 (show (z45d 0 (atM (z49 m c)) (some z))[1]? =some (.int .i64 (z.2:Int)) from rfl)) ?_;refine Wp.obind (z5 _ _) (Wp.obind (z12 _ _) (Wp.obind (z8 _ _ _) (Wp.obind c24 (Wp.obind (z5 _ _) ?_))))
   (((with_reducible refine yf ?_ ?_ ?_);omega;omega))
   refine Wp.st1 q4 (show 1<3 by decide) rfl fun h5 q5 t5 n5=>?_;have r5:=r4.tch t5 m4.hmb (by simpa using hqm.symm);have c25:=y5 r5 (show (z3c5 ab R'.length bv1 (z13a m.2.1 m.2.2))[2]? =some (.int .i64 ((z13a m.2.1 m.2.2:Nat):Int)) from rfl);refine Wp.obind (y5 q5 (show ((z45d 0 (atM (z49 m c)) (some z)).set 1 _)[2]? =some (.int .i64 ((atM (z49 m c):Int)+1)) from rfl)) ?_;refine Wp.obind (z5 _ _) (Wp.obind (z12 _ _) (Wp.obind (z8 _ _ _) (Wp.obind c25 (Wp.obind (z5 _ _) ?_))))
   (((with_reducible refine yf ?_ ?_ ?_);omega;omega))
   refine Wp.st1 q5 (show 2<3 by decide) rfl fun h6 q6 t6 n6=>?_;have t46:Tch [h1.next] h4 h6:=t5.trans t6
   have hq1:h1.next ∉ z1f0 mb ab R' bv1:=fun hb=>by
    rcases subM _ hb with hb|hb
    ·have := lt1 _ hb
     omega
    ·rcases List.mem_cons.1 ‹h1.next ∈ z1f0 mb ab R' bv1› with hb | hb
     ·exact hqm hb
     rcases List.mem_append.1 hb with hb|hb
     ·have := lt1 _ (bufB hb)
      omega
     ·rcases sub3 _ hb with hb | hb
      ·exact hqS hb
      ·omega
   have m6:=m4.tch t46 (fun b hb hm=>hq1 (List.mem_singleton.1 hm▸hb)) (fun a ha hm=>by
    obtain⟨w,hw,e⟩:=nbR a ha;have:=(m1.arms.net w hw).2.2;have:=List.mem_singleton.1 hm;omega)
   obtain⟨h7,az7,bv7,e7,m7,a7,n7,s7,nn7,t7⟩:=empty_r (n:=n) (d:=d+3) (by omega) m6;refine Wp.callN e7 ?_
   (((with_reducible refine yf ?_ ?_ ?_);omega;omega))
   have hq6:h1.next<h6.next:=by omega
   have q7:=q6.tch t7 hq6 hq1;refine Wp.obind (RowH.ldAll q7 rfl) ?_;rw[z10];have kh7:=((kh4.tch t46 hph (by simpa using (show h.next≠h1.next by omega))).tch t7 (by omega) hpS);refine Wp.stAll kh7 rfl rfl rfl fun h8 q8 t8 n8=>?_;refine Wp.obind (RowH.ldAll q8 rfl) ?_
   have hfd:zda m (c::s.drop (i+1)) i=(i+1,some (z.1,(z.2:Int) - ((z49 m c).2.2:Int),(z49 m c).2.1.length),((z5d c.toNat (atM (z49 m c)) (z49 m c).1).2.map z325,[],0)):=by
    rw[zda,show (z49 m c).1=az1.map zf1 by rw[e2],hz]
   have hS7:∀b∈z1f0 mb ab az7 bv7,b≠h.next:=fun b hb e=>hpS (e▸s7 b hb)
   have m8:=m7.tch t8 (fun b hb hm=>hS7 b hb (List.mem_singleton.1 hm)) (fun a ha hm=>by
    have:a.nb∈az7.map (·.nb):=List.mem_map_of_mem ha;rw[n7,n3] at this;obtain⟨w,hw,e⟩:=List.mem_map.1 this;exact hnb1 w hw (e.trans (List.mem_singleton.1 hm)))
   have key:=hq h8 (z1f0 mb ab az7 bv7) (z.1,(z.2:Int) - ((z49 m c).2.2:Int),(z49 m c).2.1.length) (by rw[hfd]) (by
    rw[hfd];refine⟨az7,bv7,m8,?_,rfl,?_,Nat.zero_le _,fun a ha=>?_,trivial⟩
    ·rw[a7,a3,e2]
    ·rw[nbs1,n7]
    ·have : zf1 a ∈ az7.map zf1 := List.mem_map_of_mem ha
     rw[a7] at this;obtain⟨w,_,e⟩:=List.mem_map.1 this;have e':([]:List WayW)=a.l.map (·.2):=congrArg Prod.snd e;have:a.l=[]:=List.map_eq_nil_iff.1 e'.symm;rw[this];exact⟨Nat.zero_le _,fun _ h=>nomatch h⟩) (by
    have tB:Tch (z1f0 mb ab az bv) H h7:=(tA.trans' t46 fun b hb=>by
     rw[List.mem_singleton.1 hb];exact .inr hle).trans' t7 subA
    exact(tB.mono fun b hb=>.inl (List.mem_cons_of_mem _ hb)).trans (t8.mono fun b hb=>.inl (by rw[List.mem_singleton.1 hb];exact List.mem_cons_self))) (fun b hb=>subA b (s7 b hb))
   rw[hfd] at key
   have ev:(((z45d 0 (atM (z49 m c)) (some z)).set 1 (.int .i64 ((z.2:Int) - ((z13a m.2.1 m.2.2:Nat):Int)))).set 2 (.int .i64 ((atM (z49 m c):Int)+1 - ((z13a m.2.1 m.2.2:Nat):Int))))=z3b1 (some (z.1,(z.2:Int) - ((z49 m c).2.2:Int),(z49 m c).2.1.length)):=by
    show [AV.int .i64 ((0+z.1:Nat):Int),AV.int .i64 ((z.2:Int) - ((z13a m.2.1 m.2.2:Nat):Int)),AV.int .i64 ((atM (z49 m c):Int)+1 - ((z13a m.2.1 m.2.2:Nat):Int))]=[AV.int .i64 (z.1:Int),AV.int .i64 ((z.2:Int) - ((z13a m.2.1 m.2.2:Nat):Int)),AV.int .i64 ((z221 m.2.1 c).length:Int)];rw[Nat.zero_add, ←hat]
    congr 3
    congr 1
    omega
   rw[ev,el];exact Wp.ret key
  |none=>
   refine y7 rfl ?_
   (((with_reducible refine yf ?_ ?_ ?_);omega;omega))
   rw[el]
   have hfd:zda m (c::s.drop (i+1)) i=zda ((z5d c.toNat (atM (z49 m c)) (z49 m c).1).2,(z49 m c).2.1,(z49 m c).2.2) (s.drop (i+1)) (i+1):=by
    rw[zda,show (z49 m c).1=az1.map zf1 by rw[e2],hz]
   rw[hfd] at hk hq
   have key:MatS h4 mb ab (z1f0 mb ab R' bv1) nbs ((z5d c.toNat (atM (z49 m c)) (z49 m c).1).2,(z49 m c).2.1,(z49 m c).2.2):=by
    refine⟨R',bv1,m4,by rw[a3,e2],rfl,nbs1,hu1,?_,trivial⟩
    have:(z49 m c).2.2+(z49 m c).2.1.length=atM (z49 m c)+1:=by
     unfold atM;omega
    show z2a5 ((z49 m c).2.2+(z49 m c).2.1.length) R';rw[this];exact b3
   refine z3af hn hsl k (i+1) fu _ (z1f0 mb ab R' bv1) h4 (by omega) (by omega) (by show (z49 m c).2.2+(z49 m c).2.1.length+k<80000;omega) key hT4 (by rw[t14.2.1,hx1]) kh4 hph hpS hnb (fun H' S' z' k' t' s' l'=>hk H' S' z' k' (tA.trans' t' subA) (fun b hb=>?_) l') (fun H' S' z z' k' t' s'=>hq H' S' z z' k' ((tA.mono fun b hb=>.inl (List.mem_cons_of_mem _ hb)).trans' t' fun b hb=>?_) fun b hb=>?_)
   ·rcases s' b hb with hb | hb
    ·exact subA b hb
    ·exact .inr (Nat.le_trans tA.1 hb)
   ·rcases List.mem_cons.1 hb with hb | hb
    ·exact .inl (by rw[hb];exact List.mem_cons_self)
    ·exact(subA b hb).imp (fun h=>List.mem_cons_of_mem _ h) id
   ·rcases s' b hb with hb | hb
    ·exact subA b hb
    ·exact .inr (Nat.le_trans tA.1 hb)
end
open Go.RowKit Abs
open Go.RowKit Abs
structure Frag where
 e:Bool
 F:Nat→Prop
 L:Nat→Prop
 E:Nat→Nat→Prop
 K:Nat→Nat→Prop
inductive Walk (a:Frag):Nat→List Nat→Nat→Prop
 |nil {q:Nat}:Walk a q [] q
 |cons {q r q' c:Nat} {s:List Nat} (e:a.E q r) (k:a.K r c) (w:Walk a r s q'):Walk a q (c::s) q'
def Fits1(a:Frag):List Nat→Prop
 |[]=>False
 |c::s=>∃q q',a.F q∧a.K q c∧a.L q'∧Walk a q s q'
structure Rec (a:Frag) (P:List Nat→Prop) (lo hi:Nat):Prop where
 e:a.e=true↔P []
 f:∀{c:Nat} {s:List Nat},Fits1 a (c::s)↔P (c::s)
 le:lo≤hi
 F:∀{q},a.F q→lo≤q∧q<hi
 L:∀{q},a.L q→lo≤q∧q<hi
 E:∀{q r},a.E q r→(lo≤q∧q<hi)∧lo≤r∧r<hi
 K:∀{q c},a.K q c→lo≤q∧q<hi
section
variable {a b:Frag}{P Q:List Nat→Prop}{lo mid hi u:Nat}{w:List Nat}
theorem Walk.left(ha:Rec a P lo mid)(hb:Rec b Q mid hi){X:Nat→Nat→Prop}{f:Frag}(hE:∀{q r},f.E q r→a.E q r∨b.E q r∨X q r)(hX:∀{q r},X q r→r<mid→False)(hK:∀{q c},f.K q c→a.K q c∨b.K q c){q q':Nat}{s:List Nat}(v:Walk f q s q'):
  q<mid→q'<mid→Walk a q s q':=by
 have back:∀{q q':Nat} {s:List Nat},Walk f q s q'→mid≤q→(∀{q r},X q r→mid≤r)→mid≤q':=by
  intro q q' s v
  induction v with
  |nil=>exact fun h _=>h
  |cons e k _ ih=>
   intro hq hx
   rcases hE e with h|h|h
   ·have := (ha.E h).1
    omega
   ·exact ih (hb.E h).2.1 hx
   ·exact ih (hx h) hx
 have hx2:∀{q r},X q r→mid≤r:=fun h=>Nat.le_of_not_lt fun h2=>hX h h2
 induction v with
 |nil=>exact fun _ _=>.nil
 |cons e k w ih=>
  intro h1 h2
  rcases hE e with h|h|h
  ·refine .cons h ?_ (ih (ha.E h).2.2 h2)
   rcases hK k with k|k
   ·exact k
   ·have := hb.K k
    have:=(ha.E h).2;omega
  ·have := (hb.E h).1
   omega
  ·have := back w (hx2 h) hx2
   omega
end
section
variable {N:Nt}(k:NtOk N)
include k
end
def oneB(c:UInt8):Nd:=z3c3 c.toNat
theorem at?_app(pre rest:z11)(i:Nat):at? (pre++rest) (pre.length+i)=(rest[i]?).map UInt8.toNat:=by
 unfold at?
 rw[List.getElem?_append_right (by omega),show pre.length+i - pre.length=i by omega]
theorem z42c{r:Res}:∀(rest pre:z11) (l:List Nd),FlatP (z295 (pre++rest)) (pre++rest) l pre.length r→r=.ok (z222 3 (l++rest.map oneB),(pre++rest).length)
 |[],pre,l,k=>by
  cases k with
  |stop s=>simp
  |bad s h=>simp at s
  |more s h m=>simp at s
 |c::rest,pre,l,k=>by
  have hc:=at?_app pre (c::rest) 0;rw[Nat.add_zero] at hc
  have hp:z295 (pre++c::rest) pre.length=.ok (z3c3 c.toNat,pre.length+1):=by
   unfold z295;rw[hc];rfl
  cases k with
  |stop s=>simp at s;omega
  |bad s h=>rw[hp] at h;cases h
  |more s h m=>
   rw[hp] at h;cases h;have e:pre++c::rest=(pre++[c])++rest:=by simp
   have m':FlatP (z295 ((pre++[c])++rest)) ((pre++[c])++rest) (l++[oneB c]) (pre++[c]).length r:=by
    rw[←e,List.length_append];exact m
   have:=z42c rest (pre++[c]) (l++[oneB c]) m';rw[this, ←e]
   simp
def litT(u:z11):Nd:=z222 3 (u.map oneB)
theorem tree_lit{u:z11}{r:Except Nat Nd}(h:TreeP u 1 r):r=.ok (litT u):=by
 generalize hk:(1:Int)=k at h
 cases h with
 |lit a=>
  have:=z42c (r:=_) u [] [] (by rw[List.nil_append];exact a);rw[this];rfl
 |glob a=>cases hk
 |re_bad a=>cases hk
 |re_end a n=>cases hk
 |re a=>cases hk
section
variable {h:AHeap}{mb ab:Nat}{S nbs:List Nat}{m:MS}
theorem MatS.nlt(k:MatS h mb ab S nbs m):∀b∈nbs,b<h.next:=by
 obtain⟨az,bv,k1,k2,rfl,rfl,_⟩:=k;intro b hb;obtain⟨a,ha,rfl⟩:=List.mem_map.1 hb;exact(k1.arms.net a ha).2.2
end
section
variable {n d mb ab:Nat}{h:AHeap}{S nbs:List Nat}{s:z11}{m:MS}{v:AV}{ps:List (Int×z11)}{ts:List Nd}
theorem feed_ok(hn:18446744073709551616<n)(km:MatS h mb ab S nbs m)(hT:HasTz h)(hx:h.ex=[49])(hs:s.length<80000)(hb:m.2.2+m.2.1.length+s.length<80000):
  ∃h' S',world n (d+6) 5 [.ptr mb 0,z19 s] h=some (.ret (.tup [.int .i64 ((zda m s 0).1:Int),.agg (z3b1 (zda m s 0).2.1),.bool (zda m s 0).2.1.isSome]),h')∧MatS h' mb ab S' nbs (zda m s 0).2.2∧Tch S h h'∧∀b∈S',b∈S∨h.next≤b:=by
 suffices hK:Wp (world n (d+6) 5 [.ptr mb 0,z19 s] h) fun r h'=>∃S',r=.ret (.tup [.int .i64 ((zda m s 0).1:Int),.agg (z3b1 (zda m s 0).2.1),.bool (zda m s 0).2.1.isSome])∧MatS h' mb ab S' nbs (zda m s 0).2.2∧Tch S h h'∧∀b∈S',b∈S∨h.next≤b by
  obtain⟨_,h',e,S',rfl,k⟩:=hK;exact⟨h',S',e,k⟩
 rw[z144];unfold z62;have ll:=z6a s;refine y9 (Mem.nil [] h) fun h2 M2=>?_;have t2:=M2.tch;have hlt:=M2.at0.2.1;have n2:=t2.1
 have hS:h.next ∉ S:=fun hb=>by
  have:=km.lt _ hb;omega
 have hnb:∀b∈nbs,b≠h.next:=fun b hb e=>by
  have:=km.nlt b hb;omega
 refine Wp.outK (eqMat mb 0 h2) (Wp.obind (z6 _) (y7 rfl ?_));refine y14 fun k16 ek=>?_;refine z3af (n:=n) (d:=d) (h:=h) (nbs:=nbs) hn hs s.length 0 n m S h2 (by omega) (Nat.zero_add _) hb (km.tch t2 (fun _ _=>by simp) (fun _ _=>by simp)) (hT.tch t2 (by simp)) (by rw[t2.2.1,hx]) M2.at0.1 hlt hS hnb (fun H' S' z' k' t' s' l'=>?_) (fun H' S' z z' k' t' s'=>?_)
 ·rw [List.drop_zero] at z' k' l'
  rw[ek,z10];have kh:=M2.at0.1.tch t' hlt hS;refine Wp.stAll kh rfl rfl rfl fun h4 k4 t4 n4=>?_;refine Wp.obind (RowH.ldAll k4 rfl) ?_;rw[z'];refine Wp.ret ⟨S',by rw[l',ll];rfl,k'.tch t4 (fun b hb hm=>?_) (fun b hb hm=>hnb b hb (List.mem_singleton.1 hm)),?_,fun b hb=>(s' b hb).imp id fun h=>by omega⟩
  ·have hm := List.mem_singleton.1 hm
   rcases s' b hb with hb|hb
   ·exact hS (hm▸hb)
   ·omega
  ·refine ((t2.mono fun b hb => nomatch hb).trans t').trans' t4 fun b hb => ?_
   rw[List.mem_singleton.1 hb];exact .inr (Nat.le_refl _)
 ·rw [List.drop_zero] at z' k' ⊢
  rw[z'];refine⟨S',rfl,k',(t2.mono fun b hb=>nomatch hb).trans' t' fun b hb=>?_,fun b hb=>(s' b hb).imp id fun h=>by omega⟩
  rcases List.mem_cons.1 hb with hb|hb
  ·rw [hb]
   exact .inr (Nat.le_refl _)
  ·exact .inl hb
def z126(ts:List Nd):MS:=(ts.map fun t=>(z150 t,[]),[],0)
theorem bldMat(ab L:Nat):z252 Tryd.prog z3c2 [(0,.sl ab 0 L 2)]=some (z3c5 ab L .nsl 0):=by kernel_rfl
theorem z420(hn:1000<n)(k:May n d ps ts)(hx:h.ex=[49])(kp:Slc h.next h 2 v (ps.map z47d)):∃h' mb ab S nbs,world n (d+3) 8 [v] h=some (.ret (.tup [.ptr mb 0,.int .i64 0]),h')∧MatS h' mb ab S nbs (z126 ts)∧Tch [] h h'∧(∀b∈S,h.next≤b)∧(∀b∈nbs,h.next≤b)∧mb<h'.next∧h.next≤mb:=by
 suffices hK:Wp (world n (d+3) 8 [v] h) fun r h'=>∃mb ab S nbs,r=.ret (.tup [.ptr mb 0,.int .i64 0])∧MatS h' mb ab S nbs (z126 ts)∧Tch [] h h'∧(∀b∈S,h.next≤b)∧(∀b∈nbs,h.next≤b)∧mb<h'.next∧h.next≤mb by
  obtain⟨_,h',e,mb,ab,S,nbs,rfl,k⟩:=hK;exact⟨h',mb,ab,S,nbs,e,k⟩
 rw[z2ab];unfold z169;obtain⟨ab,h1,az,e1,t1,ka,ha,hab,hblk,hnbs,hB⟩:=z3bb hn k hx kp;refine Wp.callN e1 (Wp.obind (zd9 _ _) (Wp.obind (zd8 _ _ _) (Wp.obind (z5 _ _) ?_)))
 ((with_reducible refine Wp.lett ?_))
 refine y7 rfl ?_;refine Wp.obind (bldMat _ _) ?_;refine y15 (Mem.nil [] h1) rfl fun h2 M2=>?_;have t2:=M2.tch
 have hlen:az.length=ts.length:=by
  have:=congrArg List.length ha;rw[List.length_map,List.length_map] at this;exact this
 have hts:=k.2.2.len;have h8:=k.2.1;have n1:=t1.1;have hl:=M2.at0.2.1;have hal:=ka.hab;refine Wp.ret ⟨h1.next,ab,z1f0 h1.next ab az .nsl,az.map (·.nb),rfl,⟨az,.nsl,⟨M2.at0.1,hl,ka.tch t2 (by simp) (fun _ _=>by simp) (fun _ _=>by simp),.inl ⟨rfl,rfl⟩,fun hb=>?_,fun a ha e=>?_,(fun _ h=>nomatch h),by omega⟩,ha,rfl,rfl,Nat.zero_le _,fun a ha=>?_,trivial⟩,t1.trans t2,fun b hb=>?_,fun b hb=>?_,hl,n1⟩
 ·rw [hblk] at hb
  have:=List.mem_singleton.1 hb;omega
 ·have := (ka.net a ha).2.2
  omega
 ·have := hB a ha
  exact⟨Nat.le_trans this.1 (Nat.zero_le _),fun x hx=>absurd (this.2 x hx) (Nat.not_lt_zero _)⟩
 ·rcases List.mem_cons.1 hb with hb | hb
  ·omega
  ·rw [hblk] at hb
   have hb:b∈[ab]:=hb;rw[List.mem_singleton.1 hb];exact hab
 ·obtain ⟨a, ha, rfl⟩ := List.mem_map.1 hb
  exact hnbs a ha
theorem z3e2(hn:18446744073709551620<n)(hd:1100≤d)(k:¬ ∃ts,May n d ps ts)(hx:h.ex=[49])(kp:Slc h.next h 2 v (ps.map z47d))(hbig:ps.length<1000000000000000000):∃h',world n (d+3) 8 [v] h=some (.ret (.tup [.nilp,.int .i64 2]),h')∧Tch [] h h':=by
 suffices hK:Wp (world n (d+3) 8 [v] h) fun r h'=>r=.ret (.tup [.nilp,.int .i64 2])∧Tch [] h h' by
  obtain⟨_,h',e,rfl,k⟩:=hK;exact⟨h',e,k⟩
 rw[z2ab];unfold z169;obtain⟨h1,e1,t1⟩:=z474 hn hd k hx kp hbig;refine Wp.callN e1 (Wp.obind (zd9 _ _) (Wp.obind (zd8 _ _ _) (Wp.obind (z5 _ _) ?_)))
 ((with_reducible refine Wp.lett ?_))
 refine y8 rfl ?_;exact Wp.ret ⟨rfl,t1⟩
theorem z1ef(km:MatS h mb ab S nbs m):world n (d+1) 6 [.ptr mb 0] h=some (.ret (z19 m.2.1),h):=by
 apply Wp.eq;rw[z123];unfold z48;obtain⟨az,bv,k1,_⟩:=km;have c1:=y5 k1.row (show (z3c5 ab az.length bv m.2.2)[1]? =some bv from rfl)
 have e1:z1b2 Tryd.prog h TBy 9 (some bv)=some (.val (z19 m.2.1),h):=by
  rcases k1.buf with⟨rfl,e⟩|⟨c,rest,rfl,kc,_⟩
  ·rw [e]
   kernel_rfl
  ·refine conv_row (by kernel_rfl) (by kernel_rfl) ?_
   have:=kc.part (o:=0) (n:=(z64 m.2.1).length) (by rw[List.length_append];omega);rw[List.drop_zero,List.take_left' rfl,za7] at this;exact this
 refine Wp.outK (eqMat mb 0 h) (Wp.obind (z6 _) (y7 rfl ?_));refine Wp.obind (z12 _ _) (Wp.obind (z8 _ _ _) (Wp.obind c1 (Wp.outK e1 (Wp.obind (z47 _) ?_))));exact Wp.ret ⟨rfl,rfl⟩
end
theorem z442{n d:Nat}{k:Int}{u:z11}{t:Nd}(hk:k=1∨k=2∨k=3)(hu:u.length≤64)(ht:∀r,TreeP u k r→r=.ok t)(he:z16b t=false)(hn:18446744073709551620<n)(hd:1100≤d):ArmOk n d (k,u) t:=by
 obtain⟨D,rfl⟩:∃D,d=D+3:=⟨d - 3,by omega⟩;obtain⟨r,r1,_,r3⟩:=(z305 (u:=u) (by omega) hk).2 (by omega)
 obtain rfl:=ht r r1
 have hz:=z2ae r1;refine⟨r1,hu,he,fun h hx=>⟨of_ok (z306 r1) (by omega) (by omega) hn (fun h hx=>r3 (by omega) (by omega) hx) (by rw[hx];rfl),?_⟩⟩;have:=empty_w (n:=n) (D:=D+3) (k:=k) (u:=u) (t:=t) (h:=h) (by omega) (by omega) (by omega) (fun h hx=>r3 (by omega) (by omega) hx) (by rw[hx];rfl);rw[he] at this;exact this
def exP:Nd:=.mk 6 z9b [z3c3 97]
abbrev exV:z11:=[97,43]
theorem exV0:¬z448 exV 0:=by unfold z448;decide
theorem exV_part:PartP exV 0 (.ok (exP,2)):=PartP.sign (i:=0) (j:=1) (t:=z3c3 97) (.one (c:=97) rfl (by unfold z11e;decide) (by decide)) (by decide)
theorem exV_row:RowP exV [] 0 (.ok (exP,2)):=.more exV0 exV_part (RowP.stop (l:=[exP]) (i:=2) (.inl rfl))
theorem z3f5:AltP exV [] 0 (.ok (exP,2)):=AltP.last (l:=[]) (t:=exP) exV_row (by decide)
theorem exV_tree(r:Except Nat Nd)(h:TreeP exV 3 r):r=.ok exP:=by
 generalize hk:(3:Int)=k at h
 cases h with
 |lit a=>cases hk
 |glob a=>cases hk
 |re_bad a=>cases zf0 a z3f5
 |re_end a n=>
  cases zf0 a z3f5
  exact absurd rfl n
 |re a=>
  cases zf0 a z3f5
  rfl
abbrev exPs:List (Int×z11):=[(1,[98]),(3,exV)]
abbrev exTs:List Nd:=[litT [98],exP]
theorem exMay{n d:Nat}(hn:18446744073709551620<n)(hd:1100≤d):May n d exPs exTs:=
 ⟨by decide,by decide,.cons (z442 (.inl rfl) (by decide) (fun r h=>tree_lit h) rfl hn hd) (.cons (z442 (.inr (.inr rfl)) (by decide) exV_tree rfl hn hd) .nil)⟩
set_option maxRecDepth 100000 in
theorem ex_first:z191 (exTs.map fun t=>(z150 t,[])) [120,97,98] 0=some (1,1,2):=by kernel_rfl
set_option maxRecDepth 100000 in
theorem ex_feed1:(zda (z126 exTs) [120,97,98] 0).1=2:=by kernel_rfl
set_option maxRecDepth 100000 in
theorem ex_feed2:(zda (z126 exTs) [120,97,98] 0).2.1=some (1,1,2):=by kernel_rfl
theorem flatHit:flatB Tryd.prog z36d [1,1,1]=true:=by kernel_rfl
theorem eqHit(a b c x y z:Int):zab Tryd.prog z36d (.agg [.int .i64 a,.int .i64 b,.int .i64 c]) (.agg [.int .i64 x,.int .i64 y,.int .i64 z])=some ((a == x)&&((b == y)&&((c == z)&&true))):=eq_flat flatHit (z1ed rfl (z12c _ _ _) (z1ed rfl (z12c _ _ _) (z1ed rfl (z12c _ _ _) rfl)))
theorem keepA_w(n d:Nat)(h:AHeap):world n (d+1) 12 [z19 [97]] h=some (.ret (z19 [97]),h):=by
 apply Wp.eq;rw[z371];refine y3c ?_
 suffices hK:Wp (z15a (world n d) n [97] h) fun r h'=>r=.ret (z19 [97])∧h'=h from hK.mono fun r h' ⟨e,t⟩=>⟨by rw[t];exact(Tch.refl [] h).above,by rw[e];rfl,e,rfl⟩
 exact⟨.ret (z19 [97]),h,by kernel_rfl,rfl,rfl⟩
theorem bldPats(h:AHeap):zdb Tryd.prog h 22 2 [(0,.agg ([.int .i64 1,z19 ([98]:z11)]:List AV)),(1,.agg ([.int .i64 3,z19 ([97,43]:z11)]:List AV))]=za9 h TPat [.int .i64 1,z19 [98],.int .i64 3,z19 [97,43]] 2 2:=by kernel_rfl
set_option maxRecDepth 100000 in
theorem works_w{n d:Nat}{h:AHeap}(hn:18446744073709551620<n)(hd:1200≤d)(hT:HasTz h)(hx:h.ex=[49]):world n (d+1) 4 [] h=some (.ret (.bool true),h):=by
 apply Wp.eq;rw[z337];refine y3c ?_
 suffices hK:Wp (z102 (world n d) n h) fun r h'=>r=.ret (.bool true)∧Tch [] h h' from hK.mono fun r h' ⟨e,t⟩=>⟨t.above,by rw[e];rfl,e,rfl⟩
 obtain⟨D,rfl⟩:∃D,d=D+6:=⟨d - 6,by omega⟩;unfold z102;have hxM:∀{h1:AHeap} {rs:List ze7},Abs.Mem [] h h1 rs→h1.ex=[49]:=fun M=>by rw[M.ex,hx]
 have hTM:∀{h1:AHeap} {rs:List ze7},Abs.Mem [] h h1 rs→HasTz h1:=fun M=>hT.tch M.tch (by simp);refine y27 (Mem.nil [] h) (bldPats h) rfl (by rw[hx];rfl) fun h1 M1=>?_;have slc:∀{h2:AHeap},RowH h2 h.next TPat [.int .i64 1,z19 [98],.int .i64 3,z19 [97,43]]→h.next<h2.next→Slc h2.next h2 2 (.sl h.next 0 2 2) (exPs.map z47d):=fun k hb=>k.slc (ls:=exPs.map z47d) rfl (by decide) (by decide) hb;obtain⟨h2,mb,ab,S,nbs,e2,km,t2,hS,hnb,hm1,hm2⟩:=z420 (n:=n) (d:=D+3) (h:=h1) (by omega) (exMay hn (by omega)) (hxM M1) (slc M1.at0.1 M1.at0.2.1);refine Wp.callN e2 ?_;have M2:=M1.keep t2
 repeat(first|(with_reducible first|refine yc (fun _ _=>?_)|refine Wp.lett ?_|(apply Wp.obind;first|exact z5 _ _|exact z6 _|exact zd9 _ _|exact zd8 _ _ _))|((with_reducible refine y7 ?_ ?_);first|(with_reducible rfl)|((with_reducible apply z16e);omega))|(with_reducible first|(apply Wp.outK;exact eqMat _ _ _)|refine ye (by assumption) ?_))
 obtain⟨h3,e3,t3⟩:=z1eb (n:=n) (d:=D) (h:=h2) (s:=[120,97,98]) hn (exMay hn (by omega)) (hxM M2) (hTM M2) (slc M2.at0.1 M2.at0.2.1) (by decide);rw[ex_first,Option.isSome_some] at e3;refine Wp.callN e3 ?_;have M3:=M2.keep t3;have km3:=km.tch t3 (fun _ _=>by simp) (fun _ _=>by simp);refine Wp.obind (zd9 _ _) (Wp.obind (z13 _) (Wp.obind (zd8 _ _ _) (Wp.obind (z6 _) ?_)));refine y9 (Mem.nil [] h3) fun h4 N4=>?_;rw[z10];refine y11 N4 rfl rfl rfl fun h5 N5=>?_;have t35:=N5.tch;have t05:Tch [] h h5:=M3.tch.trans t35;obtain⟨h6,S',e6,km6,t6,s6⟩:=feed_ok (n:=n) (d:=D) (s:=[120,97,98]) (by omega) (km3.tch t35 (fun _ _=>by simp) (fun _ _=>by simp)) (hT.tch t05 (by simp)) (by rw[t05.2.1,hx]) (by decide) (by decide);rw[ex_feed1,ex_feed2,Option.isSome_some] at e6;refine Wp.callN e6 ?_
 have hpS:h3.next ∉ S:=fun hb=>by
  have:=km.lt _ hb;have:=t3.1;omega
 have r6:=N5.at0.1.tch t6 N5.at0.2.1 hpS;have hp6:h3.next<h6.next:=Nat.lt_of_lt_of_le N5.at0.2.1 t6.1;refine Wp.obind (zd9 _ _) (Wp.obind (z5 _ _) (Wp.obind (zd8 _ _ _) (Wp.obind (z13 _) (Wp.obind (extT_2 _ _ _ _) (Wp.obind (z6 _) ?_)))));refine y9 (Mem.nil [] h6) fun h7 K7=>?_;rw[z10];refine y11 K7 rfl rfl rfl fun h8 K8=>?_;have t68:=K8.tch
 have t08:Tch [] h h8:=(t05.trans' t6 fun b hb=>by
  have:=hS b hb;have:=M1.tch.1
  right
  omega).trans t68
 have r8:z18 h8 3 (.ptr h3.next 0)=some [.int .i64 1,.int .i64 1,.int .i64 2]:=RowH.ldAll (r6.tch t68 hp6 (by simp)) rfl;have q8:z18 h8 3 (.ptr h6.next 0)=some [.int .i64 1,.int .i64 1,.int .i64 2]:=RowH.ldAll K8.at0.1 rfl;have eq1:zab Tryd.prog z36d (.agg [.int .i64 1,.int .i64 1,.int .i64 2]) (.agg [.int .i64 1,.int .i64 1,.int .i64 2])=some true:=eqHit 1 1 2 1 1 2;have kw:=keepA_w n (D+5) h8
 repeat(first|(with_reducible first|refine yc (fun _ _=>?_)|refine Wp.lett ?_|(apply Wp.obind;first|exact r8|exact q8|exact eq1|exact z47 _))|((with_reducible refine y8 ?_ ?_);first|(with_reducible rfl)|((with_reducible apply z88);omega))|(with_reducible first|(apply Wp.callN;exact kw)|refine ye (by assumption) ?_))
 exact Wp.ret ⟨rfl,t08⟩
open Go.RowKit Abs
theorem bldBy0(h:AHeap):zdb Tryd.prog h TBy 0 []=za9 h 5 [] 0 1:=by kernel_rfl
theorem nilBy(h:AHeap):zc1 Tryd.prog h .eql TBy true (some AV.nsl) (some AV.nsl)=some (.val (.bool true),h):=by kernel_rfl
theorem eqBy(h:AHeap)(c o m z:Nat):zc1 Tryd.prog h .eql TBy true (some (.sl c o m z)) (some AV.nsl)=some (.val (.bool false),h):=by kernel_rfl
section
variable {n d:Nat}{h:AHeap}{v:AV}{u:z11}
theorem clone_w(k:BufAt h v u)(hu:u.length≤256)(hx:h.ex=[49]):∃v' h',world n (d+1) 16 [v] h=some (.ret v',h')∧BufAt h' v' u∧Tch [] h h'∧(∀b∈zb0 v',h.next≤b)∧(v'=.nsl∨∃c,v'=.sl c 0 u.length 1):=by
 suffices hK:Wp (world n (d+1) 16 [v] h) fun r h'=>∃v',r=.ret v'∧BufAt h' v' u∧Tch [] h h'∧(∀b∈zb0 v',h.next≤b)∧(v'=.nsl∨∃c,v'=.sl c 0 u.length 1) by
  obtain⟨_,h',e,v',rfl,k⟩:=hK;exact⟨v',h',e,k⟩
 rw[z15e];unfold z38
 rcases k with⟨rfl,rfl⟩|⟨c,rest,rfl,kc,hc⟩
 ·refine Wp.outK (nilBy h) (Wp.obind (z6 _) (y8 rfl ?_))
  exact Wp.ret ⟨.nsl,rfl,.inl ⟨rfl,rfl⟩,Tch.refl _ _,(fun _ h=>nomatch h),.inl rfl⟩
 ·refine Wp.outK (eqBy h c 0 _ 1) (Wp.obind (z6 _) (y7 rfl ?_))
  refine y27 (Mem.nil [] h) (bldBy0 _) rfl (by rw[hx];rfl) fun h2 M2=>?_;have he:Abs.elemOf Tryd.prog TBy=some 5:=by kernel_rfl
  have hun:z18c Tryd.prog TBy=true:=by kernel_rfl
  have hsz:Tryd.prog.cellsOf 5=1:=by kernel_rfl
  have hex:zb6 5 h2.ex=false:=by rw[M2.ex,hx];rfl
  have kc2:=kc.tch M2.tch hc (by simp);have hbl:=za7 u
  have hf:z1b5 h2 1 u.length (.sl c 0 u.length 1)=some (z64 u):=by
   rw[z1a9 (Nat.le_refl _),Nat.mul_one];have:=kc2.part (o:=0) (n:=(z64 u).length) (by rw[List.length_append];omega);rw[List.drop_zero,List.take_left' rfl,hbl] at this;exact this
  by_cases h0:u.length=0
  ·have e0 : u = [] := List.eq_nil_of_length_eq_zero h0
   subst e0;have a1:=z404 (P:=Tryd.prog) (h:=h2) (t:=TBy) (u:=TBy) (b:=h.next) (o:=0) (m:=0) (n:=0) (x:=.sl c 0 0 1) he hun hsz rfl rfl hf (z82 fitBy (by decide) (by decide)) hex;refine Wp.outK a1 ?_;exact Wp.ret ⟨_,rfl,.inr ⟨h.next,[],rfl,M2.at0.1,M2.at0.2.1⟩,M2.tch,fun b hb=>by rw[List.mem_singleton.1 hb];exact Nat.le_refl _,.inr ⟨_,rfl⟩⟩
  ·obtain ⟨m, hm⟩ : ∃ m, u.length = m + 1 := ⟨u.length - 1, by omega⟩
   have a1:=z12e (P:=Tryd.prog) (h:=h2) (t:=TBy) (u:=TBy) (b:=h.next) (o:=0) (m:=0) (n:=m) (x:=.sl c 0 u.length 1) (cs:=[]) he hun hsz (by rw[←hm];rfl) (by rw[←hm];exact hf) (z82 fitBy (by omega) (by omega)) (z32d u) hex (M2.at0.1.part (o:=0) (n:=0) (Nat.le_refl _)) M2.at0.1.type;rw[Nat.zero_add, ←hm,List.nil_append] at a1;refine Wp.outK a1 ?_;have n2:=M2.tch.1;refine Wp.ret ⟨_,rfl,.inr ⟨h2.next,[],rfl,by rw[List.append_nil];exact RowH.new (h2.put h.next .dead) _ _,Nat.lt_succ_self _⟩,M2.tch.trans' ((Tch.put (S:=[h.next]) (.inl (List.mem_singleton.2 rfl)) _).trans (Tch.newH _ _ _ _)) fun b hb=>by rw[List.mem_singleton.1 hb];exact .inr (Nat.le_refl _),fun b hb=>by rw[List.mem_singleton.1 hb];exact n2,.inr ⟨_,rfl⟩⟩
end
theorem ways_ld{h:AHeap}{c i:Nat}{l:List z186}{rest:List AV}(k:RowH h c z208 (z76 l++rest))(hi:i<l.length):z18 h 2 (.ptr c (0+i*2))=some (z28b l[i]):=by
 have e:z76 l=z76 (l.take i)++(z28b l[i]++z76 (l.drop (i+1))):=by
  have:=z133 (l.take i) (l.drop i);rw[List.take_append_drop] at this;rw[this,List.drop_eq_getElem_cons hi,z76]
 have hl:(z76 (l.take i)).length=0+i*2:=by rw[z83,List.length_take];omega
 rw[k.ld (by rw[List.length_append,z83];omega),e,List.append_assoc,List.append_assoc,List.drop_left' hl]
 congr 1
structure NewWays (lo:Nat) (H:AHeap) (nb:Nat) (v:AV) (l':List z186) (ws:List WayW):Prop where
 sl:VAt H v (z76 l') l'.length
 runs:RunsAt H nb l'
 abs:l'.map (·.2)=ws
 nd:(l'.map (·.1)).Nodup
 apart:∀b∈zb0 v,b ∉ l'.map (·.1)
 new:∀b∈zb0 v++l'.map (·.1),lo≤b
section
variable {n d nb:Nat}{h2 hA:AHeap}{l:List z186}{Q:ARes→AHeap→Prop}{k20:AHeap→R}
theorem z288{c:Nat}{rest:List AV}(hx:hA.ex=[49])(kc:RowH hA c z208 (z76 l++rest))(hc:c<hA.next)(kr:RunsAt hA nb l)(hl:l.length<1000000)(hbb:h2.next<hA.next)(hcb:c≠h2.next)(hrb:∀x∈l,x.1≠h2.next):
  ∀(k fu i:Nat) (v:AV) (l':List z186) (H:AHeap),k<fu→i+k=l.length→RowH H h2.next z257 [.ptr nb 0,v]→NewWays hA.next H nb v l' ((l.take i).map (·.2))→Tch [h2.next] hA H→
   (∀v' l' H',RowH H' h2.next z257 [.ptr nb 0,v']→NewWays hA.next H' nb v' l' (l.map (·.2))→Tch [h2.next] hA H'→Wp (k20 H') Q)→
   Wp (z87 (world n (d+1)) h2 (.sl c 0 l.length 2) (l.length:Int) k20 fu (i:Int) H) Q
 |_,0,_,_,_,_,hf,_,_,_,_,_=>by omega
 |0,fu+1,i,v,l',H,hf,hi,kb,W,t,hk=>by
  rw[z9a];unfold z5a
  ((with_reducible refine Wp.lett ?_))
  refine y7 (by rw[decide_eq_false_iff_not];omega) ?_;rw[List.take_of_length_le (by omega)] at W;exact hk v l' H kb W t
 |k+1,fu+1,i,v,l',H,hf,hi,kb,W,t,hk=>by
  have hil:i<l.length:=by omega
  have el:(i:Int)+1=((i+1:Nat):Int):=by omega
  have hbH:h2.next<H.next:=Nat.lt_of_lt_of_le hbb t.1;have kcH:=kc.tch t hc (by simpa using hcb);have hli:=List.getElem_mem hil;have krH:RunsAt H nb l:=kr.tch t fun x hx=>by simpa using hrb x hx
  obtain⟨r1,r2,r3⟩:=krH _ hli;have w2:=ways_ld kcH hil;have i1:=z1dc (b:=c) hil;have hle:=t.1
  have hll:l'.length=i:=by
   have:=congrArg List.length W.abs;rw[List.length_map,List.length_map,List.length_take] at this;omega
  have hxH:H.ex=[49]:=by rw[t.2.1,hx]
  rw[z9a];unfold z5a
  ((with_reducible refine Wp.lett ?_))
  refine y8 (by rw[decide_eq_true_eq];omega) ?_;refine Wp.obind i1 (Wp.obind w2 ?_);refine y9 (Mem.nil [] H) fun h3 M3=>?_;rw[z10];refine y11 M3 rfl rfl rfl fun h4 M4=>?_;have t4:=M4.tch;have q0:=y5 M4.at0.1 (show (z28b l[i])[0]? =some (.ptr (l[i]).1 0) from rfl);have q1:=y5 M4.at0.1 (show (z28b l[i])[1]? =some (.int .i64 ((l[i]).2.2:Int)) from rfl);have kb4:=kb.tch t4 hbH (by simp);have cb:=y5 kb4 (show ([.ptr nb 0,v]:List AV)[1]? =some v from rfl);obtain⟨h5,e5,M5⟩:=copy_m (n:=n) (d:=d) M4 (r1.tch t4 r2 (by simp));refine Wp.obind cb (Wp.obind q0 (Wp.obind q1 (Wp.obind (z5 _ _) (Wp.callN e5 ?_))));have t5:=M5.tch;have kb5:=kb.tch t5 hbH (by simp);refine Wp.chk (z174 (z14a (by kernel_rfl) (y5 M5.at1.1 (show (z28b l[i])[1]? =some (.int .i64 ((l[i]).2.2:Int)) from rfl))) (z174 rfl (z174 (z14a (by kernel_rfl) (y5 kb5 rfl)) rfl))) ?_;refine Wp.obind (bldWay _ _) ?_;refine y27 M5 (z43d _ _ _) rfl (by rw[hxH];rfl) fun h6 M6=>?_;have t6:=M6.tch;have kb6:=kb.tch t6 hbH (by simp);refine Wp.chk (z174 rfl (z174 rfl (z174 (z14a (by kernel_rfl) (y5 kb6 rfl)) rfl))) ?_;obtain⟨h7,e7,kc7,hc7,t7⟩:=(W.sl.tch t6 (fun _ _=>by simp)).push M6.at0.1 rfl rfl (by omega) (by rw[M6.ex,hxH];rfl);refine Wp.outK e7 ?_;have hvl:=W.sl.lt;have n6:=t6.1
  have hbv:h2.next ∉ zb0 v:=fun hb=>by
   have:=W.new _ (List.mem_append_left _ hb);omega
  have hb6:h2.next<h6.next:=by omega
  have kb7:=kb6.tch t7 hb6 hbv;show Wp (Abs.obind (z17 h7 1 [AV.sl h6.next 0 (l'.length+1) 2] (.ptr h2.next 1)) _) _;refine Wp.st1 kb7 (show 1<2 by decide) rfl fun h8 k8 t8 n8=>?_
  (((with_reducible refine yf ?_ ?_ ?_);omega;omega))
  rw[el];have e1:l.take (i+1)=l.take i++[l[i]]:=(List.take_append_getElem hil).symm;have hr5:=M6.at1.2.1;have hn4:H.next<h4.next:=M4.at0.2.1;have hrn:h4.next<h6.next:=hr5;have t68:Tch (h2.next::zb0 v) h6 h8:=(t7.mono fun b hb=>.inl (List.mem_cons_of_mem _ hb)).trans (t8.mono fun b hb=>.inl (by rw[List.mem_singleton.1 hb];exact List.mem_cons_self));have tH8:Tch (h2.next::zb0 v) H h8:=(t6.mono fun b hb=>nomatch hb).trans t68
  have hids:∀x∈l',x.1 ∉ h2.next::zb0 v:=fun x hx hb=>by
   rcases List.mem_cons.1 hb with hb|hb
   ·have := W.new x.1 (List.mem_append_right _ (List.mem_map_of_mem hx))
    omega
   ·exact W.apart _ hb (List.mem_map_of_mem hx)
  have hidl:∀b∈l'.map (·.1),b<H.next:=fun b hb=>by
   obtain⟨x,hx,rfl⟩:=List.mem_map.1 hb;exact(W.runs x hx).2.1
  have n68:=t68.1;refine z288 hx kc hc kr hl hbb hcb hrb k fu (i+1) (.sl h6.next 0 (l'.length+1) 2) (l'++[(h4.next,(l[i]).2)]) h8 (by omega) (by omega) k8 ⟨.inr ⟨h6.next,[],by rw[List.length_append,List.length_singleton],by rw[z83,List.length_append,List.length_singleton],?_,by omega⟩,fun x hx=>?_,?_,?_,fun b hb hm=>?_,fun b hb=>?_⟩ (t.trans' tH8 fun b hb=>?_) hk
  ·rw [List.append_nil, z133]
   refine kc7.tch t8 hc7 fun hb=>?_;have:=List.mem_singleton.1 hb;omega
  ·rcases List.mem_append.1 hx with hx | hx
   ·exact W.runs.tch tH8 hids x hx
   ·rw [List.mem_singleton.1 hx]
    refine⟨M6.at1.1.tch t68 hr5 fun hb=>?_,by show h4.next<h8.next;omega,r3⟩
    rcases List.mem_cons.1 hb with hb|hb
    ·omega
    ·have := hvl _ hb
     omega
  ·rw [List.map_append, W.abs, e1, List.map_append]
   rfl
  ·rw [List.map_append, List.nodup_append]
   refine⟨W.nd,by simp,fun a ha b hb e=>?_⟩;have:=hidl a ha;have:b=h4.next:=by simpa using hb
   omega
  ·have hb := List.mem_singleton.1 hb
   rw[List.map_append] at hm
   rcases List.mem_append.1 hm with hm|hm
   ·have := hidl b hm
    omega
   ·have : b = h4.next := by simpa using hm
    omega
  ·rcases List.mem_append.1 hb with hb | hb
   ·have := List.mem_singleton.1 hb
    omega
   ·rw [List.map_append] at hb
    rcases List.mem_append.1 hb with hb|hb
    ·exact W.new b (List.mem_append_right _ hb)
    ·have : b = h4.next := by simpa using hb
     omega
  ·rcases List.mem_cons.1 hb with hb | hb
   ·rw [hb]
    exact .inl List.mem_cons_self
   ·exact .inr (W.new b (List.mem_append_left _ hb))
theorem another_r{h:AHeap}{v:AV}{q:Nat}(hn:1000000<n)(hx:h.ex=[49])(ka:RowH h q z257 [.ptr nb 0,v])(hq:q<h.next)(kv:VAt h v (z76 l) l.length)(kr:RunsAt h nb l)(hl:l.length<1000000):
  ∃v' l' h',world n (d+2) 17 [.ptr q 0] h=some (.ret (.agg [.ptr nb 0,v']),h')∧NewWays h.next h' nb v' l' (l.map (·.2))∧Tch [] h h':=by
 suffices hK:Wp (world n (d+2) 17 [.ptr q 0] h) fun r h'=>∃v' l',r=.ret (.agg [.ptr nb 0,v'])∧NewWays h.next h' nb v' l' (l.map (·.2))∧Tch [] h h' by
  obtain⟨_,h',e,v',l',rfl,k⟩:=hK;exact⟨v',l',h',e,k⟩
 rw[z20d];unfold z8f;refine y9 (Mem.nil [] h) fun h2 M2=>?_;have k2:=ka.tch M2.tch hq (by simp);refine Wp.obind (z12 _ _) (Wp.obind (z8 _ _ _) (Wp.obind (y5 k2 (show ([.ptr nb 0,v]:List AV)[0]? =some (.ptr nb 0) from rfl)) (Wp.obind (bldArm _) ?_)));refine y9 M2 fun h3 M3=>?_;rw[z10];refine y11 M3 rfl rfl rfl fun h4 M4=>?_;have t4:=M4.tch;have k4:=ka.tch t4 hq (by simp);have kv4:=kv.tch t4 (fun _ _=>by simp);have kr4:=kr.tch t4 (fun _ _=>by simp);refine Wp.obind (z12 _ _) (Wp.obind (z8 _ _ _) (Wp.obind (y5 k4 (show ([.ptr nb 0,v]:List AV)[1]? =some v from rfl)) ?_));have n2:=M2.tch.1;have hw2:=M2.at0.2.1;have hb4:=M4.at0.2.1
 have fin:∀(k20:AHeap→R) (v':AV) (l':List z186) (H:AHeap),(k20=fun h_21=>Abs.obind (z18 h_21 2 (z7 h2)) fun t32=>Abs.obind (z17 h_21 2 t32 (z7 h)) fun h_24=>Abs.obind (z18 h_24 2 (z7 h)) fun w2=>some (.ret (.agg w2),h_24))→RowH H h2.next z257 [.ptr nb 0,v']→NewWays h4.next H nb v' l' (l.map (·.2))→Tch [h2.next] h4 H→Wp (k20 H) fun r h'=>∃v' l',r=.ret (.agg [.ptr nb 0,v'])∧NewWays h.next h' nb v' l' (l.map (·.2))∧Tch [] h h':=by
  intro k20 v' l' H ek kb W t;have hn4:h.next≤h4.next:=t4.1;have hr:RowH H h.next z257 [.nilp,.nsl]:=M4.at1.1.tch t M4.at1.2.1 (by simp;omega);rw[ek,z10,z10];have hvo:v'.one=true:=W.sl.one.1;refine Wp.obind (RowH.ldAll kb rfl) ?_;refine Wp.stAll hr rfl rfl (by show (true&&(v'.one&&true))=true;rw[hvo];rfl) fun h9 k9 t9 n9=>?_;refine Wp.obind (RowH.ldAll k9 rfl) ?_
  have ho:∀b∈zb0 v'++l'.map (·.1),b ∉ [h.next]:=fun b hb hm=>by
   have:=W.new b hb;have:=List.mem_singleton.1 hm;have:=M4.at1.2.1;omega
  refine Wp.ret ⟨v',l',rfl,⟨W.sl.tch t9 (fun b hb=>ho b (List.mem_append_left _ hb)),W.runs.tch t9 (fun x hx=>ho _ (List.mem_append_right _ (List.mem_map_of_mem hx))),W.abs,W.nd,W.apart,fun b hb=>Nat.le_trans hn4 (W.new b hb)⟩,(t4.trans' t fun b hb=>?_).trans' t9 fun b hb=>?_⟩
  ·rw [List.mem_singleton.1 hb]
   exact .inr n2
  ·rw [List.mem_singleton.1 hb]
   exact .inr (Nat.le_refl _)
 rcases kv4 with⟨rfl,h1,h0⟩|⟨c,rest,rfl,hA,kc,hc⟩
 ·have e0 : l = [] := List.eq_nil_of_length_eq_zero h0
  subst e0;refine Wp.obind (show z153 .nsl=some 0 from rfl) ?_;refine y14 fun k20 ek=>?_;obtain⟨n,rfl⟩:∃n',n=n'+1:=⟨n - 1,by omega⟩;rw[z9a];unfold z5a
  ((with_reducible refine Wp.lett ?_))
  refine y7 rfl ?_;exact fin k20 .nsl [] h4 ek M4.at0.1 ⟨.inl ⟨rfl,rfl,rfl⟩,(fun _ h=>nomatch h),rfl,.nil,(fun _ h=>nomatch h),fun _ h=>nomatch h⟩ (Tch.refl _ _)
 ·refine Wp.obind (show z153 (.sl c 0 l.length 2) = some (l.length : Int) from rfl) ?_
  refine y14 fun k20 ek=>?_
  have hcl:c<h.next:=by
   rcases kv with⟨e,_⟩|⟨c',_,e,_,_,hc'⟩
   ·cases e
   ·cases e
    exact hc'
  refine z288 (n:=n) (d:=d) (h2:=h2) (hA:=h4) (by rw[t4.2.1,hx]) kc hc kr4 hl hb4 (by omega) (fun x hx=>by have:=(kr x hx).2.1;omega) l.length n 0 .nsl [] h4 (by omega) (Nat.zero_add _) M4.at0.1 ⟨.inl ⟨rfl,rfl,rfl⟩,(fun _ h=>nomatch h),rfl,.nil,(fun _ h=>nomatch h),fun _ h=>nomatch h⟩ (Tch.refl _ _) fun v' l' H' kb W t=>fin k20 v' l' H' ek kb W t
end
theorem bldMat2(g:Int):z252 Tryd.prog z3c2 [(1,.nsl),(2,.int .i64 g)]=some [.nsl,.nsl,.int .i64 g]:=by kernel_rfl
theorem bldMat3(c m:Nat)(g:Int):z252 Tryd.prog z3c2 [(1,.sl c 0 m 1),(2,.int .i64 g)]=some [.nsl,.sl c 0 m 1,.int .i64 g]:=by kernel_rfl
theorem bldSlArmV(h:AHeap)(b:Nat)(v:AV):zdb Tryd.prog h z2ff 1 [(0,.agg [.ptr b 0,v])]=za9 h z257 [.ptr b 0,v] 1 2:=by kernel_rfl
def ArmsL(lo:Nat)(h:AHeap)(ab:Nat)(az:List ArmT):Prop:=ArmsAt h ab az∧(∀b∈ab::z57 az,lo≤b)∧∃f:Nat→Nat,f ab=0∧(∀b,b<lo→f b=1)∧∀(i:Nat) (a:ArmT),az[i]? =some a→∀b∈z364 a,f b=i+2
theorem arms_snoc{lo:Nat}{ws:List WayW}{H0 H':AHeap}{P:List ArmT}{a:ArmT}{c':Nat}{S:List Nat}(hlo:lo≤H0.next)(K:P=[]∨∃c,ArmsL lo H0 c P∧∀b∈S,b=c∨b<lo)(t:Tch S H0 H')(hnS:∀x∈P,x.nb ∉ S)(hnets:∀x∈P,x.nb<lo)(k1:NtOk a.N)(k2:RowH H' a.nb TNet (netC a.N))(k3:a.nb<lo)(W:NewWays H0.next H' a.nb a.v a.l ws)(row:RowH H' c' z257 (zac (P++[a])))(h1:H0.next≤c')(h2:c'<H'.next)(h3:c' ∉ z364 a):ArmsL lo H' c' (P++[a]):=by
 have hle:=t.1
 -- what is there of the arms ahead
 have old:(∀x∈P,(NtOk x.N∧RowH H' x.nb TNet (netC x.N)∧x.nb<H'.next)∧VAt H' x.v (z76 x.l) x.l.length∧RunsAt H' x.nb x.l∧(x.l.map (·.1)).Nodup∧∀b∈zb0 x.v,b ∉ x.l.map (·.1))∧(∀b∈z57 P,lo≤b∧b<H0.next)∧∃f:Nat→Nat,(∀b,b<lo→f b=1)∧∀(i:Nat) (x:ArmT),P[i]? =some x→∀b∈z364 x,f b=i+2:=by
  rcases K with rfl|⟨c,⟨ka,kl,f,f1,f2,f3⟩,hS⟩
  ·exact⟨(fun _ h=>nomatch h),(fun _ h=>nomatch h),fun _=>1,(fun _ _=>rfl),fun i x h=>by cases h⟩
  ·have nS : ∀ x ∈ P, ∀ b ∈ z364 x, b ∉ S := fun x hx b hb hm => by
    obtain⟨i,hi⟩:=List.getElem?_of_mem hx;have h5:=f3 i x hi b hb
    rcases hS b hm with e|e
    ·rw [e, f1] at h5
     omega
    ·rw [f2 b e] at h5
     omega
   have nN:=hnS;refine⟨fun x hx=>⟨⟨(ka.net x hx).1,(ka.net x hx).2.1.tch t (ka.net x hx).2.2 (nN x hx),Nat.lt_of_lt_of_le (ka.net x hx).2.2 hle⟩,(ka.sl x hx).tch t (fun b hb=>nS x hx b (List.mem_append_left _ hb)),(ka.runs x hx).tch t (fun y hy=>nS x hx _ (List.mem_append_right _ (List.mem_map_of_mem hy))),ka.nd x hx,ka.apart x hx⟩,fun b hb=>⟨kl b (List.mem_cons_of_mem _ hb),ka.lt b hb⟩,f,f2,f3⟩
 obtain⟨o1,o2,f,f2,f3⟩:=old;have hnew:∀b∈z364 a,H0.next≤b:=W.new;have mem:∀x∈P++[a],x∈P∨x=a:=fun x hx=>(List.mem_append.1 hx).imp id List.mem_singleton.1;have lab:(fun b=>if b=c' then 0 else if b<H0.next then f b else P.length+2) c'=0:=if_pos rfl
 have labLo:∀b,b<lo→(fun b=>if b=c' then 0 else if b<H0.next then f b else P.length+2) b=1:=fun b hb=>by
  show (if b=c' then 0 else if b<H0.next then f b else P.length+2)=1;rw[if_neg (by omega),if_pos (by omega),f2 b hb]
 have labA:∀(i:Nat) (x:ArmT),(P++[a])[i]? =some x→∀b∈z364 x,(fun b=>if b=c' then 0 else if b<H0.next then f b else P.length+2) b=i+2:=by
  intro i x hx b hb;show (if b=c' then 0 else if b<H0.next then f b else P.length+2)=i+2
  by_cases hi:i<P.length
  ·rw [List.getElem?_append_left hi] at hx
   have:=o2 b (z53.2 ⟨x,List.mem_of_getElem? hx,hb⟩);rw[if_neg (by omega),if_pos this.2,f3 i x hx b hb]
  ·rw [List.getElem?_append_right (by omega)] at hx
   have hi0:i=P.length:=by
    apply Nat.le_antisymm
    ·apply Nat.le_of_not_lt
     intro hh;rw[List.getElem?_eq_none (by rw[List.length_singleton];omega)] at hx;cases hx
    ·omega
   subst hi0;rw[Nat.sub_self] at hx;have hx:a=x:=Option.some.inj hx;subst hx;have:=hnew b hb;rw[if_neg (fun e:b=c'=>h3 (by rw[←e];exact hb)),if_neg (by omega)]
 refine⟨⟨row,h2,fun x hx=>?_,fun x hx=>?_,fun x hx=>?_,fun x hx=>?_,fun x hx=>?_,fun b=>if b=c' then 0 else if b<H0.next then f b else P.length+2,lab,fun x hx=>labLo _ ?_,labA⟩,fun b hb=>?_,fun b=>if b=c' then 0 else if b<H0.next then f b else P.length+2,lab,labLo,labA⟩
 ·rcases mem x hx with hx | rfl
  ·exact(o1 x hx).1
  ·exact⟨k1,k2,by omega⟩
 ·rcases mem x hx with hx | rfl
  ·exact(o1 x hx).2.1
  ·exact W.sl
 ·rcases mem x hx with hx | rfl
  ·exact(o1 x hx).2.2.1
  ·exact W.runs
 ·rcases mem x hx with hx | rfl
  ·exact(o1 x hx).2.2.2.1
  ·exact W.nd
 ·rcases mem x hx with hx | rfl
  ·exact(o1 x hx).2.2.2.2
  ·exact W.apart
 ·rcases mem x hx with hx | rfl
  ·exact hnets x hx
  ·exact k3
 ·rcases List.mem_cons.1 hb with hb | hb
  ·omega
  ·obtain ⟨x, hx, hb2⟩ := z53.1 hb
   rcases mem x hx with hx|rfl
   ·exact(o2 b (z53.2 ⟨x,hx,hb2⟩)).1
   ·have := hnew b hb2
    omega
theorem arms_ld{h:AHeap}{c i:Nat}{az:List ArmT}(k:RowH h c z257 (zac az))(hi:i<az.length):z18 h 2 (.ptr c (0+i*2))=some [.ptr (az[i]).nb 0,(az[i]).v]:=by
 have e:zac az=zac (az.take i)++([.ptr (az[i]).nb 0,(az[i]).v]++zac (az.drop (i+1))):=by
  have:=z171 (az.take i) (az.drop i);rw[List.take_append_drop] at this;rw[this,List.drop_eq_getElem_cons hi,zac]
 have hl:(zac (az.take i)).length=0+i*2:=by rw[z170,List.length_take];omega
 rw[k.ld (by rw[z170];omega),e,List.drop_left' hl]
 congr 1
theorem bnd_abs{B:Nat}{az az':List ArmT}(e:az'.map zf1=az.map zf1)(h:z2a5 B az):z2a5 B az':=by
 intro a ha;have:zf1 a∈az'.map zf1:=List.mem_map_of_mem ha;rw[e] at this;obtain⟨w,hw,ew⟩:=List.mem_map.1 this;have e2:w.l.map (·.2)=a.l.map (·.2):=congrArg Prod.snd ew;have hb:=h w hw;have hl:=congrArg List.length e2;rw[List.length_map,List.length_map] at hl;refine⟨by omega,fun x hx=>?_⟩;have:x.2∈a.l.map (·.2):=List.mem_map_of_mem hx;rw[←e2] at this;obtain⟨y,hy,ey⟩:=List.mem_map.1 this;have:=hb.2 y hy;rw[←ey];exact this
def CopyI(lo:Nat)(H:AHeap)(vA:AV)(P:List ArmT):Prop:=(P=[]∧vA=.nsl)∨∃c,vA=.sl c 0 P.length 2∧ArmsL lo H c P
section
variable {n d mb mb2 ab lo:Nat}{hA:AHeap}{az:List ArmT}{bv2:AV}{g:Nat}{Q:ARes→AHeap→Prop}{k29:AHeap→R}
theorem z3b5(hn:1000000<n)(hx:hA.ex=[49])(ka:ArmsAt hA ab az)(hl:∀a∈az,a.l.length<1000000)(hm2:mb2<lo)(hlo:hA.next=lo)(hma:mb2 ∉ ab::z57 az)(hmn:∀a∈az,a.nb≠mb2)(haz:az.length<1000):
  ∀(k fu i:Nat) (P:List ArmT) (vA:AV) (H:AHeap),k<fu→i+k=az.length→RowH H mb2 z3c2 [vA,bv2,.int .i64 (g:Int)]→CopyI lo H vA P→P.map zf1=(az.take i).map zf1→P.map (·.nb)=(az.take i).map (·.nb)→Tch [mb2] hA H→
   (∀vA P H',RowH H' mb2 z3c2 [vA,bv2,.int .i64 (g:Int)]→CopyI lo H' vA P→P.map zf1=az.map zf1→P.map (·.nb)=az.map (·.nb)→Tch [mb2] hA H'→Wp (k29 H') Q)→
   Wp (z7c (world n (d+2)) (.ptr mb2 0) (.sl ab 0 az.length 2) (az.length:Int) k29 fu (i:Int) H) Q
 |_,0,_,_,_,_,hf,_,_,_,_,_,_,_=>by omega
 |0,fu+1,i,P,vA,H,hf,hi,km,K,e1,e2,t,hk=>by
  rw[zc5];unfold z6f
  ((with_reducible refine Wp.lett ?_))
  refine y7 (by rw[decide_eq_false_iff_not];omega) ?_;rw[List.take_of_length_le (by omega)] at e1 e2;exact hk vA P H km K e1 e2 t
 |k+1,fu+1,i,P,vA,H,hf,hi,km,K,e1,e2,t,hk=>by
  have hil:i<az.length:=by omega
  have el:(i:Int)+1=((i+1:Nat):Int):=by omega
  have hle:=t.1;have hmH:mb2<H.next:=by omega
  have hPl:P.length=i:=by
   have:=congrArg List.length e1;rw[List.length_map,List.length_map,List.length_take] at this;omega
  have hli:=List.getElem_mem hil;have kaH:ArmsAt H ab az:=ka.tch t (fun hb=>hma (List.mem_singleton.1 hb▸List.mem_cons_self)) (fun a ha hb=>hmn a ha (List.mem_singleton.1 hb)) (fun b hb' hb=>hma (List.mem_singleton.1 hb▸List.mem_cons_of_mem _ hb'));have w2:=arms_ld kaH.row hil;have i1:=z1dc (b:=ab) hil;have hvo:=(kaH.sl _ hli).one;have hxH:H.ex=[49]:=by rw[t.2.1,hx]
  rw[zc5];unfold z6f
  ((with_reducible refine Wp.lett ?_))
  refine y8 (by rw[decide_eq_true_eq];omega) ?_;refine Wp.obind i1 (Wp.obind w2 ?_);refine y9 (Mem.nil [] H) fun h3 M3=>?_;rw[z10];refine y11 M3 rfl rfl (by show (true&&((az[i]).v.one&&true))=true;rw[hvo.1];rfl) fun h4 M4=>?_;have t4:=M4.tch;have km4:=km.tch t4 hmH (by simp);refine Wp.obind (z12 _ _) (Wp.obind (z8 _ _ _) (Wp.obind (y5 km4 (show ([vA,bv2,.int .i64 (g:Int)]:List AV)[0]? =some vA from rfl)) ?_));obtain⟨v',l',h5,e5,W,t5⟩:=another_r (n:=n) (d:=d) hn (by rw[t4.2.1,hxH]) M4.at0.1 M4.at0.2.1 ((kaH.sl _ hli).tch t4 (fun _ _=>by simp)) ((kaH.runs _ hli).tch t4 (fun _ _=>by simp)) (hl _ hli);refine Wp.callN e5 (Wp.obind (z13 _) ?_);have t45:Tch [] H h5:=t4.trans t5;have km5:=km.tch t45 hmH (by simp);refine Wp.chk (z174 (z14a (by kernel_rfl) (y5 km5 rfl)) rfl) ?_;have hvo':=W.sl.one;refine y27 (Mem.nil [] h5) (bldSlArmV _ _ _) (by show (true&&(v'.one&&true))=true;rw[hvo'.1];rfl) (by rw[t45.2.1,hxH];rfl) fun h6 M6=>?_;have t6:=M6.tch;have km6:=km5.tch t6 (by have:=t45.1;omega) (by simp);refine Wp.chk (z174 (z14a (by kernel_rfl) (y5 km6 rfl)) rfl) ?_;have t46:Tch [] H h6:=t45.trans t6;have n46:=t46.1;have n4:=t4.1;have n56:=t6.1;have n45:=t5.1
  have eC:zac (P++[⟨(az[i]).nb,(az[i]).N,v',l'⟩])=zac P++[.ptr (az[i]).nb 0,v']:=by
   rw[z171];show zac P++([AV.ptr (az[i]).nb 0,v']++[])=_;rw[List.append_nil]
  have he:Abs.elemOf Tryd.prog z2ff=some z257:=by kernel_rfl
  have hun:z18c Tryd.prog z2ff=true:=by kernel_rfl
  have hsz:Tryd.prog.cellsOf z257=2:=by kernel_rfl
  have hex:zb6 z257 h6.ex=false:=by rw[t46.2.1,hxH];rfl
  obtain⟨h7,S7,e7,k7,hc7,t7,hS7⟩:∃h7 S7,z4b Tryd.prog h6 z2ff z2ff vA (.sl h5.next 0 1 2)=some (.val (.sl h6.next 0 (P.length+1) 2),h7)∧RowH h7 h6.next z257 (zac P++[.ptr (az[i]).nb 0,v'])∧h6.next<h7.next∧Tch S7 h6 h7∧∀b∈S7,∃m,vA=.sl b 0 m 2:=by
   rcases K with⟨rfl,rfl⟩|⟨c,rfl,⟨kc,_⟩⟩
   ·have a1 := z192 (P := Tryd.prog) (h := h6) (t := z2ff) (u := z2ff) (n := 0) (x := .sl h5.next 0 1 2) he hun hsz rfl (z11d M6.at0.1 rfl) (z82 fitArm (by decide) (by decide)) (by show (true && (v'.one && true)) = true; rw [hvo'.1]; rfl) hex
    exact⟨_,[],a1,RowH.new _ _ _,Nat.lt_succ_self _,Tch.newH _ _ _ _,fun _ h=>nomatch h⟩
   ·have hcl := z170 P
    have kc6:=kc.row.tch t46 kc.hab (by simp)
    have a1:=z12e (P:=Tryd.prog) (h:=h6) (t:=z2ff) (u:=z2ff) (b:=c) (o:=0) (m:=P.length) (n:=0) (x:=.sl h5.next 0 1 2) (cs:=zac P) he hun hsz rfl (z11d M6.at0.1 rfl) (z82 fitArm (by omega) (by omega)) (by show (true&&(v'.one&&true))=true;rw[hvo'.1];rfl) hex (by
     have:=kc6.part (o:=0) (n:=(zac P).length) (by omega);rw[List.drop_zero,List.take_length] at this;rw[show P.length*2=(zac P).length by omega];exact this) kc6.type
    exact⟨_,[c],a1,RowH.new (h6.put c .dead) _ _,Nat.lt_succ_self _,(Tch.put (S:=[c]) (.inl (List.mem_singleton.2 rfl)) _).trans (Tch.newH _ _ _ _),fun b hb=>⟨P.length,by rw[List.mem_singleton.1 hb]⟩⟩
  refine Wp.outK e7 (Wp.obind (z12 _ _) (Wp.obind (z8 _ _ _) ?_))
  have hm7:mb2 ∉ S7:=fun hb=>by
   obtain⟨m,e⟩:=hS7 _ hb
   rcases K with⟨_,e'⟩|⟨c,e',⟨_,kl,_⟩⟩
   ·rw [e'] at e
    cases e
   ·rw [e'] at e
    cases e
    have:=kl _ List.mem_cons_self;omega
  have km7:=km6.tch t7 (by omega) hm7;show Wp (Abs.obind (z17 h7 1 [AV.sl h6.next 0 (P.length+1) 2] (.ptr mb2 (0+0))) _) _;refine Wp.st1 km7 (show 0+0<3 by decide) rfl fun h8 k8 t8 n8=>?_
  (((with_reducible refine yf ?_ ?_ ?_);omega;omega))
  rw[el];have n78:=t7.1;have tH7:Tch S7 H h7:=(t46.mono fun b hb=>nomatch hb).trans t7
  have hSlo:∀b∈S7,lo≤b:=fun b hb=>by
   obtain⟨m,e⟩:=hS7 _ hb
   rcases K with⟨_,e'⟩|⟨c,e',⟨_,kl,_⟩⟩
   ·rw [e'] at e
    cases e
   ·rw [e'] at e
    cases e
    exact kl _ List.mem_cons_self
  have tH8:Tch (mb2::S7) H h8:=(tH7.mono fun b hb=>.inl (List.mem_cons_of_mem _ hb)).trans (t8.mono fun b hb=>.inl (by rw[List.mem_singleton.1 hb];exact List.mem_cons_self))
  -- the new arm at the end
  have tt:Tch (mb2::S7) h5 h8:=(t6.mono fun b hb=>nomatch hb).trans ((t7.mono fun b hb=>.inl (List.mem_cons_of_mem _ hb)).trans (t8.mono fun b hb=>.inl (by rw[List.mem_singleton.1 hb];exact List.mem_cons_self)))
  have hnw:∀b∈zb0 v'++l'.map (·.1),b ∉ mb2::S7:=fun b hb hm=>by
   have h1:=W.new b hb
   rcases List.mem_cons.1 hm with hm|hm
   ·omega
   ·obtain ⟨m, e⟩ := hS7 _ hm
    rcases K with⟨_,e'⟩|⟨c,e',⟨kc,_⟩⟩
    ·rw [e'] at e
     cases e
    ·rw [e'] at e
     cases e
     have:=kc.hab;omega
  have W8:NewWays H.next h8 (az[i]).nb v' l' ((az[i]).l.map (·.2)):=⟨W.sl.tch tt (fun b hb=>hnw b (List.mem_append_left _ hb)),W.runs.tch tt (fun x hx=>hnw _ (List.mem_append_right _ (List.mem_map_of_mem hx))),W.abs,W.nd,W.apart,fun b hb=>by have:=W.new b hb;omega⟩;have hnbl:∀a∈az,a.nb<lo:=fun a ha=>by rw[←hlo];exact(ka.net a ha).2.2
  have hPn:∀x∈P,x.nb<lo:=fun x hx=>by
   have:x.nb∈P.map (·.nb):=List.mem_map_of_mem hx;rw[e2] at this;obtain⟨w,hw,ew⟩:=List.mem_map.1 this;rw[←ew];exact hnbl w (List.mem_of_mem_take hw)
  have netH:=kaH.net _ hli
  have netN:(az[i]).nb ∉ mb2::S7:=fun hm=>by
   rcases List.mem_cons.1 hm with hm|hm
   ·exact hmn _ hli hm
   ·have := hSlo _ hm
    have:=hnbl _ hli;omega
  have nbk:∀b∈z364 ⟨(az[i]).nb,(az[i]).N,v',l'⟩,b<h5.next:=fun b hb=>by
   rcases List.mem_append.1 hb with hb|hb
   ·exact W.sl.lt b hb
   ·obtain ⟨x, hx, rfl⟩ := List.mem_map.1 hb
    exact(W.runs x hx).2.1
  have KL:ArmsL lo h8 h6.next (P++[⟨(az[i]).nb,(az[i]).N,v',l'⟩]):=by
   refine arms_snoc (H0:=H) (S:=mb2::S7) (ws:=(az[i]).l.map (·.2)) (by omega) ?_ tH8 (fun x hx hm=>?_) hPn netH.1 (netH.2.1.tch tH8 netH.2.2 netN) (hnbl (az[i]) hli) W8 (by rw[eC];exact k7.tch t8 hc7 (fun hb=>by have:=List.mem_singleton.1 hb;omega)) (by omega) (by omega) fun hb=>by
    have:=nbk _ hb;omega
   ·rcases K with ⟨e, _⟩ | ⟨c, e, kl⟩
    ·exact .inl e
    ·refine .inr ⟨c, kl, fun b hb => ?_⟩
     rcases List.mem_cons.1 hb with hb|hb
     ·right
      omega
     ·obtain ⟨m, e'⟩ := hS7 _ hb
      rw[e'] at e
      cases e
      exact .inl rfl
   ·have hx2 : x.nb ∈ P.map (·.nb) := List.mem_map_of_mem hx
    rw[e2] at hx2;obtain⟨w,hw,ew⟩:=List.mem_map.1 hx2
    rcases List.mem_cons.1 hm with hm|hm
    ·exact hmn w (List.mem_of_mem_take hw) (ew.trans hm)
    ·have := hSlo _ hm
     have:=hPn x hx;omega
  have e1':az.take (i+1)=az.take i++[az[i]]:=(List.take_append_getElem hil).symm
  refine z3b5 hn hx ka hl hm2 hlo hma hmn haz k fu (i+1) (P++[⟨(az[i]).nb,(az[i]).N,v',l'⟩]) _ h8 (by omega) (by omega) k8 (.inr ⟨h6.next,by rw[List.length_append,List.length_singleton],KL⟩) (by
   rw[e1',List.map_append,List.map_append,e1];show List.map zf1 (az.take i)++[((az[i]).N,l'.map (·.2))]=List.map zf1 (az.take i)++[((az[i]).N,(az[i]).l.map (·.2))];rw[W.abs]) (by
   rw[e1',List.map_append,List.map_append,e2];rfl) (t.trans' tH8 fun b hb=>?_) hk
  rcases List.mem_cons.1 hb with hb|hb
  ·rw [hb]
   exact .inl List.mem_cons_self
  ·have := hSlo b hb
   exact .inr (by omega)
end
def z196(m:MS)(c:UInt8):Option (Nat×Int×Nat)×MS:=match (z5d c.toNat (atM (z49 m c)) (z49 m c).1).1 with
 |some z=>(some (z.1,(z.2:Int) - ((z49 m c).2.2:Int),(z49 m c).2.1.length),((z5d c.toNat (atM (z49 m c)) (z49 m c).1).2.map z325,[],0))
 |none=>(none,((z5d c.toNat (atM (z49 m c)) (z49 m c).1).2,(z49 m c).2.1,(z49 m c).2.2))
abbrev z147:=(Nat×Int×Nat)×Nat
def z199:MS→z11→Nat→List z147×MS
 |m,[],_=>([],m)
 |m,c::s,at_=>match (z196 m c).1 with
  |some z=>((z,at_+1)::(z199 (z196 m c).2 s (at_+1)).1,(z199 (z196 m c).2 s (at_+1)).2)
  |none=>z199 (z196 m c).2 s (at_+1)
theorem z466(m:MS)(c:UInt8)(s:z11)(i:Nat):zda m (c::s) i=match (z196 m c).1 with
  |some z=>(i+1,some z,(z196 m c).2)
  |none=>zda (z196 m c).2 s (i+1):=by
 rw[zda];unfold z196
 cases(z5d c.toNat (atM (z49 m c)) (z49 m c).1).1<;>rfl
theorem z416:∀(a b:z11) (m:MS) (at_:Nat),z199 m (a++b) at_=((z199 m a at_).1++(z199 (z199 m a at_).2 b (at_+a.length)).1,(z199 (z199 m a at_).2 b (at_+a.length)).2)
 |[],b,m,at_=>rfl
 |c::a,b,m,at_=>by
  rw[List.cons_append,z199,z199,List.length_cons,show at_+(a.length+1)=at_+1+a.length by omega,z416 a b]
  cases(z196 m c).1<;>rfl
theorem z377{m:MS}{c:UInt8}(h:m.2.1.length≤256):(z196 m c).2.2.1.length≤256∧(z196 m c).2.2.2+(z196 m c).2.2.1.length≤m.2.2+m.2.1.length+1:=by
 have h1:=z39e (c:=c) h;have h2:=z39f (m:=m) (c:=c) h;unfold z196
 split
 ·exact⟨Nat.zero_le _,Nat.zero_le _⟩
 ·exact⟨h1.1,by show (z49 m c).2.2+(z49 m c).2.1.length≤_;omega⟩
theorem z3b0:∀(s:z11) (m:MS) (i at_:Nat),m.2.1.length≤256→∃k,(zda m s i).1=i+k∧k≤s.length∧(zda m s i).2.2.2.1.length≤256∧(zda m s i).2.2.2.2+(zda m s i).2.2.2.1.length≤m.2.2+m.2.1.length+k∧
  (((zda m s i).2.1=none∧k=s.length∧z199 m s at_=([],(zda m s i).2.2))∨∃z,(zda m s i).2.1=some z∧1≤k∧z199 m s at_=((z,at_+k)::(z199 (zda m s i).2.2 (s.drop k) (at_+k)).1,(z199 (zda m s i).2.2 (s.drop k) (at_+k)).2))
 |[],m,i,at_,h=>⟨0,rfl,Nat.le_refl _,h,Nat.le_refl _,.inl ⟨rfl,rfl,rfl⟩⟩
 |c::s,m,i,at_,h=>by
  obtain⟨b1,b2⟩:=z377 (c:=c) h;rw[z466,z199];cases hz:(z196 m c).1 with
  |some z=>exact⟨1,rfl,by rw[List.length_cons];omega,b1,b2,.inr ⟨z,rfl,Nat.le_refl _,rfl⟩⟩
  |none=>
   obtain⟨k,k1,k2,k3,k4,k5⟩:=z3b0 s (z196 m c).2 (i+1) (at_+1) b1;refine⟨k+1,by rw[k1];omega,by rw[List.length_cons];omega,k3,Nat.le_trans k4 (by omega),?_⟩
   rcases k5 with⟨q1,q2,q3⟩|⟨z,q1,q2,q3⟩
   ·exact .inl ⟨q1,by rw[List.length_cons,q2],q3⟩
   ·refine .inr ⟨z, q1, by omega, ?_⟩
    rw[List.drop_succ_cons,show at_+(k+1)=at_+1+k by omega];exact q3
abbrev z121:Nat:=60
abbrev z1b0:Nat:=34
noncomputable def z31d(z:z147):List AV:=z3b1 (some z.1)++[.int .i64 (z.2:Int)]
noncomputable def z98:List z147→List AV
 |[]=>[]
 |z::F=>z31d z++z98 F
theorem z1a8:∀F:List z147,(z98 F).length=4*F.length
 |[]=>rfl
 |z::F=>by
  have:=z1a8 F;rw[z98,List.length_append,this];show 4+4*F.length=4*(F.length+1);omega
theorem z223:∀a b:List z147,z98 (a++b)=z98 a++z98 b
 |[],_=>rfl
 |x::a,b=>by rw[List.cons_append,z98,z98,z223 a b,List.append_assoc]
def OutAt(h:AHeap)(v:AV)(F:List z147):Prop:=(v=.nsl∧F=[])∨∃c,v=.sl c 0 F.length 4∧RowH h c z121 (z98 F)∧c<h.next
section
variable {h h':AHeap}{v:AV}{F:List z147}{z:z147}{b1:Nat}
theorem OutAt.tch{S:List Nat}(k:OutAt h v F)(t:Tch S h h')(hd:∀b∈zb0 v,b ∉ S):OutAt h' v F:=by
 rcases k with k|⟨c,rfl,h2,h3⟩
 ·exact .inl k
 ·exact .inr ⟨c,rfl,h2.tch t h3 (hd c (List.mem_singleton.2 rfl)),Nat.lt_of_lt_of_le h3 t.1⟩
theorem OutAt.lt(k:OutAt h v F):∀b∈zb0 v,b<h.next:=by
 rcases k with⟨rfl,_⟩|⟨c,rfl,_,h3⟩
 ·exact fun b hb=>nomatch hb
 ·intro b hb
  rw[List.mem_singleton.1 hb];exact h3
theorem z42d:fitB Tryd.prog z121 32=true:=by kernel_rfl
theorem OutAt.push(k:OutAt h v F)(kr:RowH h b1 z121 (z31d z))(hm:F.length<1000000)(hx:h.ex=[49]):
  ∃h',z4b Tryd.prog h z1b0 z1b0 v (.sl b1 0 1 4)=some (.val (.sl h.next 0 (F.length+1) 4),h')∧OutAt h' (.sl h.next 0 (F.length+1) 4) (F++[z])∧Tch (zb0 v) h h':=by
 have he:Abs.elemOf Tryd.prog z1b0=some z121:=by kernel_rfl
 have hu:z18c Tryd.prog z1b0=true:=by kernel_rfl
 have hsz:Tryd.prog.cellsOf z121=4:=by kernel_rfl
 have hex:zb6 z121 h.ex=false:=by rw[hx];rfl
 have eb:z98 (F++[z])=z98 F++z31d z:=by
  rw[z223];show z98 F++(z31d z++[])=_;rw[List.append_nil]
 have el:F.length+1=(F++[z]).length:=by rw[List.length_append,List.length_singleton]
 rcases k with⟨rfl,rfl⟩|⟨c,rfl,h2,h3⟩
 ·have a1 := z192 (P := Tryd.prog) (h := h) (t := z1b0) (u := z1b0) (n := 0) (x := .sl b1 0 1 4) he hu hsz rfl (z11d kr rfl) (z82 z42d (by omega) (by omega)) rfl hex
  refine⟨_,a1,.inr ⟨h.next,by rw[el],?_,Nat.lt_succ_self _⟩,Tch.newH _ _ _ _⟩;rw[eb];exact RowH.new _ _ _
 ·have hcl := z1a8 F
  have a1:=z12e (P:=Tryd.prog) (h:=h) (t:=z1b0) (u:=z1b0) (b:=c) (o:=0) (m:=F.length) (n:=0) (x:=.sl b1 0 1 4) (cs:=z98 F) he hu hsz rfl (z11d kr rfl) (z82 z42d (by omega) (by omega)) rfl hex (by
   have:=h2.part (o:=0) (n:=(z98 F).length) (by omega);rw[List.drop_zero,List.take_length] at this;rw[show F.length*4=(z98 F).length by omega];exact this) h2.type
  refine⟨_,a1,.inr ⟨h.next,by rw[el],?_,Nat.lt_succ_self _⟩,(Tch.put (S:=[c]) (.inl (List.mem_singleton.2 rfl)) _).trans (Tch.newH _ _ _ _)⟩;rw[eb];exact RowH.new (h.put c .dead) _ _
end
theorem bldFound(a b c d:Int):z252 Tryd.prog z121 [(0,.agg [.int .i64 a,.int .i64 b,.int .i64 c]),(1,.int .i64 d)]=some [.int .i64 a,.int .i64 b,.int .i64 c,.int .i64 d]:=by kernel_rfl
theorem z473(h:AHeap)(a b c d:Int):zdb Tryd.prog h z1b0 1 [(0,.agg [.int .i64 a,.int .i64 b,.int .i64 c,.int .i64 d])]=za9 h z121 [.int .i64 a,.int .i64 b,.int .i64 c,.int .i64 d] 1 4:=by kernel_rfl
structure AllAt (hA H:AHeap) (mb ab:Nat) (nbs S0 S:List Nat) (v:AV) (F:List z147) (m:MS):Prop where
 mat:MatS H mb ab S nbs m
 out:OutAt H v F
 ob:∀b∈zb0 v,hA.next≤b∧b ∉ S
 tch:Tch S0 hA H
 sub:∀b∈S,b∈S0∨hA.next≤b
 nb:∀b∈nbs,b<hA.next
 tz:HasTz H
 ex:H.ex=[49]
section
variable {n d mb ab:Nat}{hA:AHeap}{nbs S0:List Nat}{Q:ARes→AHeap→Prop}{k24:AV→Int→AHeap→R}
theorem z2e9(hn:18446744073709551616<n):
  ∀(fu:Nat) (s:z11) (F:List z147) (at_:Nat) (m:MS) (S:List Nat) (v:AV) (H:AHeap),s.length<fu→AllAt hA H mb ab nbs S0 S v F m→m.2.2+m.2.1.length+s.length<80000→m.2.1.length≤256→at_+s.length<80000→F.length≤at_→s.length<80000→
   (∀(H':AHeap) (S':List Nat) (v':AV),AllAt hA H' mb ab nbs S0 S' v' (F++(z199 m s at_).1) (z199 m s at_).2→(z199 m s at_).2.2.2+(z199 m s at_).2.2.1.length≤m.2.2+m.2.1.length+s.length→(z199 m s at_).2.2.1.length≤256→(F++(z199 m s at_).1).length≤at_+s.length→Wp (k24 v' ((at_+s.length:Nat):Int) H') Q)→
   Wp (z138 (world n (d+6)) (.ptr mb 0) k24 fu v (at_:Int) s H) Q
 |0,_,_,_,_,_,_,_,hf,_,_,_,_,_,_,_=>by omega
 |fu+1,s,F,at_,m,S,v,H,hf,K,hb,hu,hat,hF,hsl,hk=>by
  have ll:=z6a s;rw[z206];unfold z154
  by_cases h0:s.length=0
  ·have e0 : s = [] := List.eq_nil_of_length_eq_zero h0
   subst e0
   repeat(first|(with_reducible refine Wp.lett ?_)|((with_reducible refine y7 ?_ ?_;apply decide_eq_false);omega))
   exact hk H S v (by show AllAt _ _ _ _ _ _ _ _ (F++[]) m;rw[List.append_nil];exact K) (Nat.le_refl _) hu (by show (F++[]).length≤_;rw[List.append_nil];exact hF)
  ·obtain ⟨k, k1, k2, k3, k4, k5⟩ := z3b0 s m 0 at_ hu
   rw[Nat.zero_add] at k1;obtain⟨h1,S1,e1,m1,t1,s1⟩:=feed_ok (n:=n) (d:=d) hn K.mat K.tz K.ex hsl hb;rw[k1] at e1
   have hk1:1≤k:=by
    rcases k5 with⟨_,h,_⟩|⟨_,_,h,_⟩
    ·omega
    ·exact h
   have hle:=K.tch.1;have hlt1:=t1.1
   have ob1:∀b∈zb0 v,hA.next≤b∧b ∉ S1:=fun b hb=>by
    obtain⟨p1,p2⟩:=K.ob b hb;refine⟨p1,fun hm=>?_⟩
    rcases s1 b hm with hm|hm
    ·exact p2 hm
    ·have := K.out.lt b hb
     omega
   have out1:=K.out.tch t1 (fun b hb=>(K.ob b hb).2);have tA1:Tch S0 hA h1:=K.tch.trans' t1 K.sub
   have sub1:∀b∈S1,b∈S0∨hA.next≤b:=fun b hb=>by
    rcases s1 b hb with hb|hb
    ·exact K.sub b hb
    ·exact .inr (by omega)
   have hT1:=K.tz.tch t1 (K.mat.tz K.tz);have hx1:h1.ex=[49]:=by rw[t1.2.1,K.ex]
   ((with_reducible refine Wp.lett ?_))
   refine y8 (by rw[decide_eq_true_eq];omega) ?_;refine Wp.callN e1 (Wp.obind (zd9 _ _) (Wp.obind (z5 _ _) (Wp.obind (zd8 _ _ _) (Wp.obind (z13 _) (Wp.obind (extT_2 _ _ _ _) (Wp.obind (z6 _) ?_))))));refine y9 (Mem.nil [] h1) fun h2 M2=>?_;rw[z10];refine y11 M2 (feedC_len _) rfl (feedC_one _) fun h3 M3=>?_;have t3:=M3.tch;have n3:=t3.1;have q3:=M3.at0.1;have hq3:=M3.at0.2.1;have K3:AllAt hA h3 mb ab nbs S0 S1 v F (zda m s 0).2.2:=⟨m1.tch t3 (fun _ _=>by simp) (fun _ _=>by simp),out1.tch t3 (fun _ _=>by simp),ob1,tA1.trans (t3.mono fun b hb=>nomatch hb),sub1,K.nb,hT1.tch t3 (by simp),by rw[t3.2.1,hx1]⟩
   have esl:z309 s (k:Int) (z15b s)=some (s.drop k):=by
    rw[ll];have:=z44b (l:=s) k2 (Nat.le_refl _);rw[List.take_of_length_le (by rw[List.length_drop];exact Nat.le_refl _)] at this;exact this
   have eat:(at_:Int)+(k:Int)=((at_+k:Nat):Int):=by omega
   have hdl:(s.drop k).length=s.length - k:=List.length_drop
   have hq0:h1.next ∉ S1:=fun hb=>by
    have:=m1.lt _ hb;omega
   rcases k5 with⟨z1,z2,z3⟩|⟨z,z1,z2,z3⟩
   ·rw [z1] at q3
    have r3:z18 h3 3 (.ptr h1.next 0)=some [.int .i64 0,.int .i64 0,.int .i64 0]:=RowH.ldAll q3 rfl;have eq0:zab Tryd.prog z36d (.agg [.int .i64 0,.int .i64 0,.int .i64 0]) (.agg [.int .i64 0,.int .i64 0,.int .i64 0])=some true:=eqHit 0 0 0 0 0 0;have b1:(!(none:Option (Nat×Int×Nat)).isSome)=true:=rfl;have b2:(none:Option (Nat×Int×Nat)).isSome=false:=rfl;rw[z1]
    repeat(first|(with_reducible refine yc (fun _ _=>?_))|((with_reducible refine yf ?_ ?_ ?_);omega;omega)|(with_reducible first|refine Wp.lett ?_|(apply Wp.obind;first|exact r3|exact eq0|exact esl)|(refine y8 ?_ ?_;assumption))|((with_reducible refine y7 ?_ ?_);first|(with_reducible first|assumption|exact Bool.not_true)|((with_reducible first|apply decide_eq_false|apply z16e);omega))|(with_reducible refine ye (by assumption) ?_))
    rw[eat];have hd0:s.drop k=[]:=List.drop_of_length_le (by omega);rw[hd0];rw[z3] at hk;refine z2e9 hn fu [] F (at_+k) _ S1 v h3 (by show 0<fu;omega) K3 (by show _+0<80000;omega) k3 (by show at_+k+0<80000;omega) (by omega) (by decide) fun H' S' v' K' c1 c2 c3=>?_;have:=hk H' S' v' K' (Nat.le_trans k4 (by omega)) c2 (Nat.le_trans c3 (by show at_+k+0≤_;omega));rw[show at_+s.length=at_+k+([]:z11).length by show _=at_+k+0;omega] at this;exact this
   ·rw [z1] at q3
    have r3:z18 h3 3 (.ptr h1.next 0)=some (z3b1 (some z)):=RowH.ldAll q3 rfl;have b1:(!(some z).isSome)=false:=rfl;have b2:(some z).isSome=true:=rfl;rw[z1]
    repeat(first|(with_reducible refine yc (fun _ _=>?_))|((with_reducible refine yf ?_ ?_ ?_);omega;omega)|(with_reducible first|refine Wp.lett ?_|(apply Wp.obind;first|exact esl|exact r3)|(refine y8 ?_ ?_;assumption))|((with_reducible refine y7 ?_ ?_);first|(with_reducible first|rfl|assumption)|((with_reducible apply decide_eq_false);omega))|(with_reducible refine ye (by assumption) ?_))
    rw[eat];refine Wp.obind (bldFound _ _ _ _) ?_;refine y27 (Mem.nil [] h3) (z473 _ _ _ _ _) rfl (by rw[K3.ex];rfl) fun h4 M4=>?_;have t4:=M4.tch;have n4:=t4.1;obtain⟨h5,e5,o5,t5⟩:=(K3.out.tch t4 (fun _ _=>by simp)).push (z:=(z,at_+k)) M4.at0.1 (by omega) (by rw[t4.2.1,K3.ex]);refine Wp.outK e5 ?_;have nS:∀b∈S1,b ∉ zb0 v:=fun b hb hm=>(ob1 b hm).2 hb
    have K5:AllAt hA h5 mb ab nbs S0 S1 (.sl h4.next 0 (F.length+1) 4) (F++[(z,at_+k)]) (zda m s 0).2.2:=by
     refine⟨(K3.mat.tch t4 (fun _ _=>by simp) (fun _ _=>by simp)).tch t5 nS (fun b hb hm=>?_),o5,fun b hb=>?_,(K3.tch.trans (t4.mono fun b hb=>nomatch hb)).trans' t5 fun b hb=>.inr (ob1 b hb).1,sub1,K.nb,(K3.tz.tch t4 (by simp)).tch t5 fun hb=>?_,by rw[t5.2.1,t4.2.1,K3.ex]⟩
     ·have := K.nb b hb
      have:=(ob1 b hm).1;omega
     ·have hb := List.mem_singleton.1 hb
      subst hb;refine⟨by omega,fun hm=>?_⟩;have:=K3.mat.lt _ hm;omega
     ·rcases K3.out with ⟨rfl, _⟩ | ⟨c, rfl, kc, _⟩
      ·exact nomatch hb
      ·exact z22c K3.tz kc (List.mem_singleton.1 hb)
    repeat((with_reducible refine ye (by assumption) ?_))
    rw[z3] at hk;refine z2e9 hn fu (s.drop k) (F++[(z,at_+k)]) (at_+k) _ S1 _ h5 (by omega) K5 (by omega) k3 (by omega) (by rw[List.length_append,List.length_singleton];omega) (by omega) fun H' S' v' K' c1 c2 c3=>?_;rw[List.append_assoc] at K' c3;have:=hk H' S' v' K' (Nat.le_trans c1 (by omega)) c2 (Nat.le_trans c3 (by omega));rw[show at_+s.length=at_+k+(s.drop k).length by omega] at this;exact this
end
def Reads(h:AHeap)(S:List Nat)(pv:AV)(ss:List z11):Prop:=z153 pv=some (ss.length:Int)∧∀H,Tch S h H→∀(i:Nat) (hi:i<ss.length),∃p,z1a6 1 pv (i:Int)=some p∧z9 H p=some (z19 ss[i])
section
variable {n d mb ab:Nat}{h hA:AHeap}{nbs S S0:List Nat}{Q:ARes→AHeap→Prop}{m:MS}{pv:AV}{ss:List z11}
theorem z3bf{k7:AV→AHeap→R}(hn:18446744073709551616<n)(kp:Reads hA S0 pv ss)(hss:ss.length<1000000000000000000):
  ∀(rest:List z11) (i fu:Nat) (F:List z147) (at_:Nat) (m:MS) (S:List Nat) (v:AV) (H:AHeap),ss.drop i=rest→rest.length<fu→AllAt hA H mb ab nbs S0 S v F m→m.2.2+m.2.1.length+rest.flatten.length<80000→m.2.1.length≤256→at_+rest.flatten.length<80000→F.length≤at_→80000<n→
   (∀(H':AHeap) (S':List Nat) (v':AV),AllAt hA H' mb ab nbs S0 S' v' (F++(z199 m rest.flatten at_).1) (z199 m rest.flatten at_).2→Wp (k7 v' H') Q)→
   Wp (z139 (world n (d+6)) n (.ptr mb 0) pv k7 fu v (at_:Int) (i:Int) H) Q
 |_,_,0,_,_,_,_,_,_,_,hf,_,_,_,_,_,_,_=>by omega
 |[],i,fu+1,F,at_,m,S,v,H,hd,hf,K,hb,hu,hat,hF,hn8,hk=>by
  have hl:=drop_nil hd;rw[z181];unfold z11c;refine Wp.obind kp.1 ?_
  ((with_reducible refine Wp.lett ?_))
  refine y7 (by rw[decide_eq_false_iff_not];omega) ?_;refine hk H S v ?_;show AllAt _ _ _ _ _ _ _ _ (F++[]) m;rw[List.append_nil];exact K
 |s::rest,i,fu+1,F,at_,m,S,v,H,hd,hf,K,hb,hu,hat,hF,hn8,hk=>by
  obtain⟨hi,hsi,hd2⟩:=z16d hd;rw[List.length_cons] at hf;have hfl:(s::rest).flatten.length=s.length+rest.flatten.length:=by rw[List.flatten_cons,List.length_append]
  rw[hfl] at hb hat;obtain⟨p,i1,c1⟩:=kp.2 H K.tch i hi;rw[hsi] at c1;have el:(i:Int)+1=((i+1:Nat):Int):=by omega
  rw[z181];unfold z11c;refine Wp.obind kp.1 ?_
  ((with_reducible refine Wp.lett ?_))
  refine y8 (by rw[decide_eq_true_eq];omega) ?_;refine Wp.obind i1 (Wp.obind c1 (Wp.obind (z47 _) ?_));refine y14 fun k24 ek=>?_;refine z2e9 (n:=n) (d:=d) hn n s F at_ m S v H (by omega) K (by omega) hu (by omega) hF (by omega) fun H' S' v' K' c1 c2 c3=>?_;rw[ek]
  (((with_reducible refine yf ?_ ?_ ?_);omega;omega))
  rw[el];refine z3bf hn kp hss rest (i+1) fu _ (at_+s.length) _ S' v' H' hd2 (by omega) K' (by omega) c2 (by omega) c3 hn8 fun H'' S'' v'' K''=>hk H'' S'' v'' ?_;rw[List.flatten_cons,z416, ←List.append_assoc];exact K''
theorem all_ok(hn:18446744073709551616<n)(km:MatS h mb ab S nbs m)(hT:HasTz h)(hx:h.ex=[49])(kp:Reads h S pv ss)(hss:ss.length<n)(hss2:ss.length<1000000000000000000)(hb:m.2.2+m.2.1.length+ss.flatten.length<80000):
  ∃h' S' v',world n (d+7) 9 [.ptr mb 0,pv] h=some (.ret (.tup [v',.bool true]),h')∧AllAt h h' mb ab nbs S S' v' (z199 m ss.flatten 0).1 (z199 m ss.flatten 0).2:=by
 suffices hK:Wp (world n (d+7) 9 [.ptr mb 0,pv] h) fun r h'=>∃S' v',r=.ret (.tup [v',.bool true])∧AllAt h h' mb ab nbs S S' v' (z199 m ss.flatten 0).1 (z199 m ss.flatten 0).2 by
  obtain⟨_,h',e,S',v',rfl,k⟩:=hK;exact⟨h',S',v',e,k⟩
 rw[z3c7];unfold z18e;refine y14 fun k7 ek=>?_
 have hu:m.2.1.length≤256:=by
  obtain⟨_,_,_,_,_,_,h,_⟩:=km;exact h
 have K0:AllAt h h mb ab nbs S S .nsl [] m:=⟨km,.inl ⟨rfl,rfl⟩,(fun _ h=>nomatch h),Tch.refl _ _,fun b hb=>.inl hb,km.nlt,hT,hx⟩;refine z3bf (n:=n) (d:=d) hn kp hss2 ss 0 n [] 0 m S .nsl h rfl hss K0 hb hu (by omega) (Nat.le_refl _) (by omega) fun H' S' v' K'=>?_;rw[ek];exact Wp.ret ⟨S',v',rfl,K'⟩
end
theorem eqA_flat{P:Program}{t:TypeId}{ks:List Nat}{xs ys:List AV}{b:Bool}{d:Nat}(hd:1500<d)(hf:flatB P t ks=true)(he:eqL ks xs ys=some b):eqA P (d+1) t (.agg xs) (.agg ys)=some b:=by
 unfold flatB at hf;simp only[Bool.and_eq_true,Bool.not_eq_true'] at hf;obtain⟨⟨⟨⟨h1,h2⟩,h3⟩,h4⟩,h5⟩:=hf;have h5:(P.fieldsOf t).toList.length <1000:=Nat.le_of_ble_eq_true h5;obtain⟨d,rfl⟩:∃d',d=d'+1:=⟨d - 1,by omega⟩;unfold eqA;cases hu:P.underlying t with
 |none=>rw[hu] at h1;cases h1
 |some u=>
  rw[hu] at h1
  cases u<;>simp at h1
  simp only[h3,Bool.false_eq_true,if_false];exact z1aa _ ks 0 d xs ys [] [] b h4 rfl rfl he (by omega)
def foundOk:List Field→Bool
 |[f1,f2]=> !(f1.name == "_")&& !(f2.name == "_")&&Nat.beq f1.type z36d&&Nat.beq f2.type 3&&Nat.beq f1.offset 0&&Nat.beq f2.offset 3
 |_=>false
theorem found_ok:foundOk (Tryd.prog.fieldsOf z121).toList=true:=by kernel_rfl
theorem z3a8:∃f1 f2:Field,(Tryd.prog.fieldsOf z121).toList=[f1,f2]∧¬f1.name= "_" ∧¬f2.name= "_" ∧f1.type=z36d∧f2.type=3∧f1.offset=0∧f2.offset=3:=by
 have h:=found_ok
 generalize(Tryd.prog.fieldsOf z121).toList=L at h
 match L,h with
 |[f1,f2],h=>
  unfold foundOk at h;simp only[Bool.and_eq_true,Bool.not_eq_true'] at h;obtain⟨⟨⟨⟨⟨h1,h2⟩,h3⟩,h4⟩,h5⟩,h6⟩:=h;exact⟨f1,f2,rfl,by simpa using h1,by simpa using h2,Nat.eq_of_beq_eq_true h3,Nat.eq_of_beq_eq_true h4,Nat.eq_of_beq_eq_true h5,Nat.eq_of_beq_eq_true h6⟩
theorem part_hit(a b c d:Int):z1f9 Tryd.prog z36d [.int .i64 a,.int .i64 b,.int .i64 c,.int .i64 d] 0=some (.agg [.int .i64 a,.int .i64 b,.int .i64 c]):=by kernel_rfl
theorem eqFound(a b c d:Int):zab Tryd.prog z121 (.agg [.int .i64 a,.int .i64 b,.int .i64 c,.int .i64 d]) (.agg [.int .i64 a,.int .i64 b,.int .i64 c,.int .i64 d])=some true:=by
 have h0:Tryd.prog.eqGuardType Tryd.prog.depth z121=false:=by kernel_rfl
 have h1:(match Tryd.prog.underlying z121 with|some (.struct _)=>true|_=>false)=true:=by kernel_rfl
 have h3:Tryd.prog.stoodInHeld z121=false:=by kernel_rfl
 have hk:z459 Tryd.prog 3=1:=by kernel_rfl
 obtain⟨f1,f2,hf,n1,n2,t1,t2,o1,o2⟩:=z3a8;have e0:eqL [1,1,1] [.int .i64 a,.int .i64 b,.int .i64 c] [.int .i64 a,.int .i64 b,.int .i64 c]=some ((a == a)&&((b == b)&&((c == c)&&true))):=z1ed rfl (z12c _ _ _) (z1ed rfl (z12c _ _ _) (z1ed rfl (z12c _ _ _) rfl))
 have e1:eqA Tryd.prog 1998 z36d (.agg [.int .i64 a,.int .i64 b,.int .i64 c]) (.agg [.int .i64 a,.int .i64 b,.int .i64 c])=some true:=by
  have:=eqA_flat (P:=Tryd.prog) (d:=1997) (by decide) flatHit e0;rw[this]
  simp
 have e2:eqA Tryd.prog 1997 3 (.int .i64 d) (.int .i64 d)=some true:=by
  have:=z430 (P:=Tryd.prog) (d:=1996) (t:=3) (x:=.int .i64 d) (y:=.int .i64 d) hk.symm (z12c .i64 d d);rw[this]
  simp
 have p2:z1f9 Tryd.prog 3 [.int .i64 a,.int .i64 b,.int .i64 c,.int .i64 d] 3=some (.int .i64 d):=z266 (by rw[hk];decide) rfl;unfold zab;simp only[h0,Bool.false_eq_true,if_false];unfold eqA;cases hu:Tryd.prog.underlying z121 with
 |none=>rw[hu] at h1;cases h1
 |some u=>
  rw[hu] at h1
  cases u<;>simp at h1
  simp only[h3,Bool.false_eq_true,if_false];rw[hf];unfold eqFields;rw[if_neg n1,t1,o1,part_hit];dsimp only;rw[e1];dsimp only;unfold eqFields;rw[if_neg n2,t2,o2,p2];dsimp only;rw[e2];rfl
theorem idx_sl4{b m i:Nat}(h:i<m):z1a6 4 (.sl b 0 m 4) (i:Int)=some (.ptr b (0+i*4)):=by
 have e:Nat.blt i m=true:=by simpa using h
 show (match Nat.blt i m with|true=>some (AV.ptr b (0+i*4))|false=>none)=_;rw[e]
theorem z42a{h:AHeap}{c i:Nat}{F:List z147}(k:RowH h c z121 (z98 F))(hi:i<F.length):z18 h 4 (.ptr c (0+i*4))=some (z31d F[i]):=by
 have e:z98 F=z98 (F.take i)++(z31d F[i]++z98 (F.drop (i+1))):=by
  have:=z223 (F.take i) (F.drop i);rw[List.take_append_drop] at this;rw[this,List.drop_eq_getElem_cons hi,z98]
 have hl:(z98 (F.take i)).length=0+i*4:=by rw[z1a8,List.length_take];omega
 rw[k.ld (by rw[z1a8];omega),e,List.drop_left' hl]
 congr 1
section
variable {n d:Nat}{h:AHeap}{v w:AV}{F:List z147}{Q:ARes→AHeap→Prop}
theorem z37e{k11:AHeap→R}{c1 c2:Nat}(k1:RowH h c1 z121 (z98 F))(k2:RowH h c2 z121 (z98 F))(hF:F.length<1000000)(hk:Wp (k11 h) Q):
  ∀(k fu i:Nat),k<fu→i+k=F.length→Wp (z11b (.sl c1 0 F.length 4) (.sl c2 0 F.length 4) k11 fu (i:Int) h) Q
 |_,0,_,hf,_=>by omega
 |0,fu+1,i,hf,hi=>by
  rw[ze5];unfold zaa;refine Wp.obind (show z153 (.sl c1 0 F.length 4)=some (F.length:Int) from rfl) ?_
  ((with_reducible refine Wp.lett ?_))
  refine y7 (by rw[decide_eq_false_iff_not];omega) ?_;exact hk
 |k+1,fu+1,i,hf,hi=>by
  have hil:i<F.length:=by omega
  have el:(i:Int)+1=((i+1:Nat):Int):=by omega
  rw[ze5];unfold zaa;refine Wp.obind (show z153 (.sl c1 0 F.length 4)=some (F.length:Int) from rfl) ?_
  ((with_reducible refine Wp.lett ?_))
  refine y8 (by rw[decide_eq_true_eq];omega) ?_;refine Wp.obind (idx_sl4 hil) (Wp.obind (z42a k1 hil) (Wp.obind (idx_sl4 hil) (Wp.obind (z42a k2 hil) (Wp.obind (eqFound _ _ _ _) ?_))))
  ((with_reducible refine Wp.lett ?_))
  refine y7 rfl ?_
  (((with_reducible refine yf ?_ ?_ ?_);omega;omega))
  rw[el];exact z37e k1 k2 hF hk k fu (i+1) (by omega) (by omega)
theorem same_w(hn:1000000<n)(k1:OutAt h v F)(k2:OutAt h w F)(hF:F.length<1000000):world n (d+1) 10 [v,w] h=some (.ret (.bool true),h):=by
 apply Wp.eq;rw[z372];unfold z15c
 have l1:z153 v=some (F.length:Int):=by
  rcases k1 with⟨rfl,rfl⟩|⟨c,rfl,_⟩<;>rfl
 have l2:z153 w=some (F.length:Int):=by
  rcases k2 with⟨rfl,rfl⟩|⟨c,rfl,_⟩<;>rfl
 refine Wp.obind l1 (Wp.obind l2 ?_)
 ((with_reducible refine Wp.lett ?_))
 refine y7 (by rw[bne_self_eq_false]) ?_;refine y14 fun k11 ek=>?_
 rcases k1 with⟨rfl,rfl⟩|⟨c1,rfl,k1,_⟩
 ·obtain ⟨n, rfl⟩ : ∃ n', n = n' + 1 := ⟨n - 1, by omega⟩
  rw[ze5];unfold zaa;refine Wp.obind l1 ?_
  ((with_reducible refine Wp.lett ?_))
  refine y7 rfl ?_;rw[ek];exact Wp.ret ⟨rfl,rfl⟩
 ·rcases k2 with ⟨rfl, rfl⟩ | ⟨c2, rfl, k2, _⟩
  ·obtain ⟨n, rfl⟩ : ∃ n', n = n' + 1 := ⟨n - 1, by omega⟩
   rw[ze5];unfold zaa;refine Wp.obind l1 ?_
   ((with_reducible refine Wp.lett ?_))
   refine y7 rfl ?_;rw[ek];exact Wp.ret ⟨rfl,rfl⟩
  ·refine z37e k1 k2 hF ?_ F.length n 0 (by omega) (Nat.zero_add _)
   rw[ek];exact Wp.ret ⟨rfl,rfl⟩
end
set_option maxRecDepth 100000 in
theorem z49a{N:Nat}{h:AHeap}:∀{ls:List (List AV)},(∀li∈ls,Plain Tryd.prog N h 11 TPat li)→∃ps:List (Int×z11),ls=ps.map z47d∧∀p∈ps,p.2.length≤reachBytes
 |[],_=>⟨[],rfl,fun _ h=>nomatch h⟩
 |l::ls,hp=>by
  obtain⟨ps,rfl,h2⟩:=z49a (fun li hl=>hp li (List.mem_cons_of_mem _ hl));obtain⟨y1,y2,rfl,p1,p2⟩:=(hp l List.mem_cons_self).struct2 Tryd.underlying41;obtain⟨k,rfl,_⟩:=p1.int Tryd.underlying3;obtain⟨u,rfl,hu⟩:=p2.str Tryd.underlying9;refine⟨(k,u)::ps,rfl,fun p hp=>?_⟩
  rcases List.mem_cons.1 hp with rfl|hp
  ·exact hu
  ·exact h2 p hp
set_option maxRecDepth 100000 in
theorem args_pats{N:Nat}{h:AHeap}{x:AV}(hp:ArgP Tryd.prog N h 12 22 x):∃ps:List (Int×z11),Slc N h 2 x (ps.map z47d)∧ps.length<1000000000000000000:=by
 obtain⟨ls,h1,h2,h3⟩:=hp.slice Tryd.underlying22;obtain⟨ps,rfl,_⟩:=z49a h3;have hc:Tryd.prog.cellsOf TPat=2:=by kernel_rfl
 have hb:Tryd.prog.bytesOf TPat=24:=by kernel_rfl
 have hr:reachBytes<1000000000000000000:=by decide
 rw[List.length_map,hb] at h2;rw[hc] at h1;exact⟨ps,h1,by omega⟩
set_option maxRecDepth 100000 in
abbrev tzI64:List Int:=[0,1,56,2,57,49,28,3,61,58,42,50,38,29,17,4,62,47,59,36,45,43,51,22,53,39,33,30,24,18,12,5,63,55,48,27,60,41,37,16,46,35,44,21,52,32,23,11,54,26,40,15,34,20,31,10,25,14,19,9,13,8,7,6]
set_option maxRecDepth 100000 in
theorem tzC_ints:tzC=tzI64.map fun z=>AV.int .u8 z:=by kernel_rfl
set_option maxRecDepth 100000 in
noncomputable def tzG:Tabs:=[(0,tzI64.map fun z=>AV.int .u8 z)]
set_option maxRecDepth 100000 in
theorem tz_of{h:AHeap}{X:List Nat}{G:Nat}(hG:0<G)(k:Keeps (z27a tzG X G) h):HasTz h:=
 ⟨k.2.2 _ _ (by show (z25d tzG).get _=_;unfold tzG z25d;rw[y1c,tzC_ints]),Nat.lt_of_lt_of_le hG k.1⟩
theorem y47{N:Nat}{h h':AHeap}{sz:Nat}{v:AV}{ls:List (List AV)}(k:Slc N h sz v ls)(t:Tch [] h h')(hN:N≤h.next):Slc h'.next h' sz v ls:=k.keep (Nat.le_trans hN t.1) fun b o hb ho=>by rw[t.2.2 b (Nat.lt_of_lt_of_le hb hN) (by simp)];exact ho
theorem z33f:∀(s:z11) (m:MS) (at_:Nat),(z199 m s at_).1.length≤s.length
 |[],_,_=>Nat.le_refl _
 |c::s,m,at_=>by
  have:=z33f s (z196 m c).2 (at_+1);rw[z199,List.length_cons]
  split
  ·rw [List.length_cons]
   omega
  ·omega
theorem bldSlStr(h:AHeap)(s:z11):zdb Tryd.prog h 37 1 [(0,z19 s)]=za9 h 9 [z19 s] 1 1:=by kernel_rfl
theorem MatS.mem{h:AHeap}{mb ab:Nat}{S nbs:List Nat}{m:MS}(k:MatS h mb ab S nbs m):mb∈S:=by
 obtain⟨az,bv,k1,k2,rfl,_⟩:=k;exact List.mem_cons_self
theorem MatS.net{h:AHeap}{mb ab:Nat}{S nbs:List Nat}{m:MS}(k:MatS h mb ab S nbs m):∀b∈nbs,b ∉ S:=by
 obtain⟨az,bv,k1,k2,rfl,rfl,_⟩:=k;intro b hb hm;obtain⟨a,ha,rfl⟩:=List.mem_map.1 hb;obtain⟨f,f1,f2,f3⟩:=k1.arms.own;have fa:=f2 a ha
 rcases List.mem_cons.1 hm with hm|hm
 ·exact k1.m3 a ha hm
 rcases List.mem_append.1 hm with hm|hm
 ·exact(k1.b1 _ hm).2.2 a ha rfl
 rcases List.mem_cons.1 hm with hm|hm
 ·rw [hm, f1] at fa
  cases fa
 ·obtain ⟨x, hx, hb⟩ := z53.1 hm
  obtain⟨i,hi⟩:=List.getElem?_of_mem hx;have:=f3 i x hi _ hb;omega
theorem MatS.len{h:AHeap}{mb ab:Nat}{S nbs:List Nat}{m:MS}(k:MatS h mb ab S nbs m):nbs.length=m.1.length:=by
 obtain⟨az,bv,k1,k2,rfl,rfl,_⟩:=k;rw[←k2,List.length_map,List.length_map]
theorem MatS.rowM{h:AHeap}{mb ab:Nat}{S nbs:List Nat}{m:MS}(k:MatS h mb ab S nbs m):∃x l,RowH h mb z3c2 (x::l):=by
 obtain⟨az,bv,k1,_⟩:=k;exact⟨_,_,k1.row⟩
set_option maxRecDepth 100000 in
theorem bigMat:z30c Tryd.prog 24=true:=by kernel_rfl
theorem apartMat{h:AHeap}{a b:Nat}{x y:AV}{l m:List AV}(ka:RowH h a z3c2 (x::l))(kb:RowH h b z3c2 (y::m))(hne:a≠b)(hx:zb6 z3c2 h.ex=true):z202 Tryd.prog h .eql 24 false (some (.ptr a 0)) (some (.ptr b 0))=some (.val (.bool false),h):=by
 obtain⟨t1,g1,_⟩:=ka;obtain⟨t2,g2,_⟩:=kb
 have hb:Nat.beq a b=false:=by
  cases hh:Nat.beq a b with
  |false=>rfl
  |true=>exact absurd (Nat.eq_of_beq_eq_true hh) hne
 have l1:z205 h a 0=true:=by
  unfold z205;rw[g1];show (Nat.blt 0 (l.length+1)&&zb6 z3c2 h.ex)=true;rw[hx];rfl
 have l2:z205 h b 0=true:=by
  unfold z205;rw[g2];show (Nat.blt 0 (m.length+1)&&zb6 z3c2 h.ex)=true;rw[hx];rfl
 have ap:z1ad Tryd.prog h 24 (.ptr a 0) (.ptr b 0)=true:=by
  show (!Nat.beq a b&&(z205 h a 0&&(z205 h b 0&&z30c Tryd.prog 24)))=true;rw[hb,l1,l2,bigMat];rfl
 simp only[z202,ap,Bool.not_false,Bool.and_self]
section
variable {n d mb ab:Nat}{h:AHeap}{S nbs:List Nat}{m:MS}{s:z11}
theorem copy_r(hn:1000000<n)(km:MatS h mb ab S nbs m)(hx:h.ex=[49])(hb:m.2.2+m.2.1.length<900000)(hne:m.1≠[]):∃h' mb2 ab2 S2,world n (d+3) 7 [.ptr mb 0] h=some (.ret (.ptr mb2 0),h')∧MatS h' mb2 ab2 S2 nbs m∧Tch [] h h'∧∀b∈S2,h.next≤b:=by
 suffices hK:Wp (world n (d+3) 7 [.ptr mb 0] h) fun r h'=>∃mb2 ab2 S2,r=.ret (.ptr mb2 0)∧MatS h' mb2 ab2 S2 nbs m∧Tch [] h h'∧∀b∈S2,h.next≤b by
  obtain⟨_,h',e,mb2,ab2,S2,rfl,k⟩:=hK;exact⟨h',mb2,ab2,S2,e,k⟩
 rw[z145];unfold z63;obtain⟨A,u,g⟩:=m;obtain⟨az,bv,k1,k2,rfl,rfl,hu,hB,_⟩:=km;have k2:az.map zf1=A:=k2;have hu:u.length≤256:=hu;have hb:g+u.length<900000:=hb;have k1:MatAt h mb ab az bv u g:=k1;have hB:z2a5 (g+u.length) az:=hB;have hz0:az≠[]:=fun e=>hne (by rw[←k2,e];rfl);have c1:=y5 k1.row (show (z3c5 ab az.length bv g)[1]? =some bv from rfl);have c2:=y5 k1.row (show (z3c5 ab az.length bv g)[2]? =some (.int .i64 (g:Int)) from rfl);refine Wp.outK (eqMat mb 0 h) (Wp.obind (z6 _) (y7 rfl ?_));refine Wp.obind (z12 _ _) (Wp.obind (z8 _ _ _) (Wp.obind c1 ?_));refine Wp.obind (z12 _ _) (Wp.obind (z8 _ _ _) (Wp.obind c2 (Wp.obind (z5 _ _) ?_)));obtain⟨bv2,h1,e1,kb1,t1,nb1,hform⟩:=clone_w (n:=n) (d:=d+1) k1.buf hu hx;refine Wp.callN e1 ?_;have k1':=k1.tch t1 (fun _ _=>by simp) (fun _ _=>by simp);refine Wp.chk (z174 (z14a (by kernel_rfl) (y5 k1'.row (show (z3c5 ab az.length bv g)[2]? =some (.int .i64 (g:Int)) from rfl))) rfl) ?_
 have hbld:z252 Tryd.prog z3c2 [(1,bv2),(2,.int .i64 (g:Int))]=some [.nsl,bv2,.int .i64 (g:Int)]:=by
  rcases hform with rfl|⟨c,rfl⟩
  ·exact bldMat2 _
  ·exact bldMat3 _ _ _
 have hone:([.nsl,bv2,.int .i64 (g:Int)]:List AV).all AV.one=true:=by
  rcases hform with rfl|⟨c,rfl⟩<;>rfl
 refine Wp.obind hbld ?_;refine y15 (Mem.nil [] h1) hone fun h2 M2=>?_;have t2:=M2.tch;have t02:=t1.trans t2;have k2':=k1'.tch t2 (fun _ _=>by simp) (fun _ _=>by simp);have n1:=t1.1;have hl2:=M2.at0.2.1;refine Wp.obind (z12 _ _) (Wp.obind (z8 _ _ _) (Wp.obind (y5 k2'.row (show (z3c5 ab az.length bv g)[0]? =some (.sl ab 0 az.length 2) from rfl)) ?_));refine Wp.obind (show z153 (.sl ab 0 az.length 2)=some (az.length:Int) from rfl) ?_;refine y14 fun k29 ek=>?_;have hlo:∀b∈ab::z57 az,b<h.next:=fun b hb=>k1.lt b (z47f hb);have hlen:=k1.len;refine z3b5 (n:=n) (d:=d) (lo:=h2.next) (bv2:=bv2) (g:=g) hn (by rw[t02.2.1,hx]) k2'.arms (fun a ha=>by have:=(hB a ha).1;omega) hl2 rfl (fun hb=>by have:=hlo _ hb;omega) (fun a ha e=>by have:=(k1.arms.net a ha).2.2;omega) hlen az.length n 0 [] .nsl h2 (by omega) (Nat.zero_add _) M2.at0.1 (.inl ⟨rfl,rfl⟩) rfl rfl (Tch.refl _ _) fun vA P H km K e1 e2 t=>?_;rw[ek]
 have hPl:P.length=az.length:=by
  have:=congrArg List.length e1;rw[List.length_map,List.length_map] at this;exact this
 rcases K with⟨e,_⟩|⟨c,rfl,⟨ka,kl,_⟩⟩
 ·rw [e] at hPl
  exact absurd (List.eq_nil_of_length_eq_zero hPl.symm) hz0
 have hbl:=kb1.lt
 have nPn:∀x∈P,x.nb<h.next:=fun x hx=>by
  have:x.nb∈P.map (·.nb):=List.mem_map_of_mem hx;rw[e2] at this;obtain⟨w,hw,ew⟩:=List.mem_map.1 this;rw[←ew];exact(k1.arms.net w hw).2.2
 refine Wp.ret ⟨h1.next,c,z1f0 h1.next c P bv2,rfl,⟨P,bv2,⟨km,Nat.lt_of_lt_of_le hl2 t.1,ka,(kb1.tch t2 (fun _ _=>by simp)).tch t (fun b hb hm=>?_),fun hb=>?_,fun x hx e=>?_,fun b hb=>⟨?_,fun hb'=>?_,fun x hx e=>?_⟩,by omega⟩,e1.trans k2,rfl,e2.symm,hu,bnd_abs e1 hB,trivial⟩,t02.trans' t fun b hb=>?_,fun b hb=>?_⟩
 ·have := hbl b hb
  have:=List.mem_singleton.1 hm;omega
 ·have := kl _ hb
  omega
 ·have := nPn x hx
  omega
 ·have := hbl b hb
  omega
 ·have := hbl b hb
  have:=kl _ hb';omega
 ·have := nPn x hx
  have:=nb1 b hb;omega
 ·rw [List.mem_singleton.1 hb]
  exact .inr n1
 ·rcases List.mem_cons.1 hb with hb | hb
  ·omega
  rcases List.mem_append.1 hb with hb|hb
  ·exact nb1 b hb
  ·have := kl b hb
   omega
theorem feed_nil:∃h',world n (d+1) 5 [.nilp,z19 s] h=some (.ret (.tup [.int .i64 0,.agg [.int .i64 0,.int .i64 0,.int .i64 0],.bool false]),h')∧Tch [] h h':=by
 suffices hK:Wp (world n (d+1) 5 [.nilp,z19 s] h) fun r h'=>r=.ret (.tup [.int .i64 0,.agg [.int .i64 0,.int .i64 0,.int .i64 0],.bool false])∧Tch [] h h' by
  obtain⟨_,h',e,rfl,k⟩:=hK;exact⟨h',e,k⟩
 rw[z144];unfold z62;refine y9 (Mem.nil [] h) fun h2 M2=>?_;refine Wp.outK (z4a3 h2) (Wp.obind (z6 _) (y8 rfl ?_));rw[z10];refine y11 M2 rfl rfl rfl fun h4 M4=>?_;refine Wp.obind (RowH.ldAll M4.at0.1 rfl) ?_;exact Wp.ret ⟨rfl,M4.tch⟩
theorem z472:world n (d+1) 6 [.nilp] h=some (.ret (z19 []),h):=by
 apply Wp.eq;rw[z123];unfold z48;refine Wp.outK (z4a3 h) (Wp.obind (z6 _) (y8 rfl ?_));exact Wp.ret ⟨rfl,rfl⟩
theorem copyM_nil:world n (d+1) 7 [.nilp] h=some (.ret .nilp,h):=by
 apply Wp.eq;rw[z145];unfold z63;refine Wp.outK (z4a3 h) (Wp.obind (z6 _) (y8 rfl ?_));exact Wp.ret ⟨rfl,rfl⟩
end
theorem z415:∀(s:z11) (m:MS) (at_:Nat),m.2.1.length≤256→(z199 m s at_).2.2.1.length≤256∧(z199 m s at_).2.2.2+(z199 m s at_).2.2.1.length≤m.2.2+m.2.1.length+s.length
 |[],m,_,h=>⟨h,Nat.le_refl _⟩
 |c::s,m,at_,h=>by
  have h1:=z377 (c:=c) h;have h2:=z415 s (z196 m c).2 (at_+1) h1.1;rw[z199,List.length_cons]
  have h3:(z196 m c).2.2.2+(z196 m c).2.2.1.length+s.length≤m.2.2+m.2.1.length+(s.length+1):=by
   have:=h1.2;omega
  split<;>exact⟨h2.1,Nat.le_trans h2.2 h3⟩
structure MatX where
 mb:Nat
 ab:Nat
 S:List Nat
 nbs:List Nat
 m:MS
def Apart(x y:MatX):Prop:=(∀b∈x.S,b ∉ y.S)∧(∀b∈x.nbs,b ∉ y.S)∧∀b∈y.nbs,b ∉ x.S
structure Sys (h:AHeap) (L:List MatX) (O:List (AV×List z147)):Prop where
 mats:∀x∈L,MatS h x.mb x.ab x.S x.nbs x.m
 ap:L.Pairwise Apart
 outs:∀o∈O,OutAt h o.1 o.2∧∀b∈zb0 o.1,∀x∈L,b ∉ x.S
 tz:HasTz h
 ex:h.ex=[49]
section
variable {n d:Nat}{h h':AHeap}{L P R:List MatX}{O:List (AV×List z147)}{x y:MatX}{s:z11}{Q:ARes→AHeap→Prop}{k:AV→AHeap→Abs.R}
theorem Sys.tch0(K:Sys h L O)(t:Tch [] h h'):Sys h' L O:=
 ⟨fun x hx=>(K.mats x hx).tch t (fun _ _=>by simp) (fun _ _=>by simp),K.ap,fun o ho=>⟨(K.outs o ho).1.tch t (fun _ _=>by simp),(K.outs o ho).2⟩,K.tz.tch t (by simp),by rw[t.2.1,K.ex]⟩
theorem Sys.add(K:Sys h L O)(t:Tch [] h h')(ky:MatS h' y.mb y.ab y.S y.nbs y.m)(new:∀b∈y.S,h.next≤b)(nets:∀b∈y.nbs,∀x∈L,b ∉ x.S):Sys h' (L++[y]) O:=by
 have K':=K.tch0 t;refine⟨fun x hx=>?_,?_,fun o ho=>⟨(K'.outs o ho).1,fun b hb x hx=>?_⟩,K'.tz,K'.ex⟩
 ·rcases List.mem_append.1 hx with hx | hx
  ·exact K'.mats x hx
  ·rw [List.mem_singleton.1 hx]
   exact ky
 ·rw [List.pairwise_append]
  refine⟨K.ap,List.pairwise_singleton _ _,fun x hx z hz=>?_⟩;rw[List.mem_singleton.1 hz];refine⟨fun b hb hm=>?_,fun b hb hm=>?_,fun b hb=>nets b hb x hx⟩
  ·have := (K.mats x hx).lt b hb
   have:=new b hm;omega
  ·have := (K.mats x hx).nlt b hb
   have:=new b hm;omega
 ·rcases List.mem_append.1 hx with hx | hx
  ·exact(K.outs o ho).2 b hb x hx
  ·rw [List.mem_singleton.1 hx]
   intro hm;have:=(K.outs o ho).1.lt b hb;have:=new b hm;omega
theorem z210{mb ab:Nat}{S nbs:List Nat}{m m':MS}{F:List z147}(P R:List MatX)(hn:18446744073709551616<n)(hr:z199 m s 0=(F,m'))(K:Sys h (P++⟨mb,ab,S,nbs,m⟩::R) O)(hb:m.2.2+m.2.1.length+s.length<80000)(hk:∀h' S' v,Sys h' (P++⟨mb,ab,S',nbs,m'⟩::R) ((v,F)::O)→Wp (k (.tup [v,.bool true]) h') Q):
  Wp (outK (zdb Tryd.prog h 37 1 [(0,z19 s)]) fun v h1=>callN (world n (d+7) 9 [.ptr mb 0,v] h1) k) Q:=by
 obtain⟨x,hxe⟩:∃x:MatX,x=⟨mb,ab,S,nbs,m⟩:=⟨_,rfl⟩;have hS:x.S=S:=by rw[hxe]
 have hnb:x.nbs=nbs:=by rw[hxe]
 rw[←hxe] at K;refine y27 (Mem.nil [] h) (bldSlStr _ _) rfl (by rw[K.ex];rfl) fun h1 M1=>?_;have K1:=K.tch0 M1.tch;have hxL:x∈P++x::R:=by simp
 have km:MatS h1 mb ab x.S nbs m:=by
  have:=K1.mats x hxL;rw[hxe] at this;rw[hxe];exact this
 have hne:h.next ∉ x.S:=fun hb=>by
  have:=(K.mats x hxL).lt _ hb;omega
 have rd:Reads h1 x.S (.sl h.next 0 1 1) [s]:=by
  refine⟨rfl,fun H tt i hi=>?_⟩
  have hi0:i=0:=by
   have:i<1:=hi;omega
  subst hi0;exact⟨_,rfl,y5 (M1.at0.1.tch tt M1.at0.2.1 hne) rfl⟩
 have efl:[s].flatten=s:=by simp
 obtain⟨h2,S',v,e2,A⟩:=all_ok (n:=n) (d:=d) hn km K1.tz K1.ex rd (by show 1<n;omega) (by show 1<1000000000000000000;decide) (by rw[efl];exact hb);rw[efl,hr] at A;refine Wp.callN e2 (hk h2 S' v ?_);have ap:=K1.ap;rw[List.pairwise_append,List.pairwise_cons] at ap;obtain⟨a1,⟨a2,a3⟩,a4⟩:=ap;have hl:∀z∈P++x::R,(∀b∈z.S,b<h1.next)∧∀b∈z.nbs,b<h1.next:=fun z hz=>⟨(K1.mats z hz).lt,(K1.mats z hz).nlt⟩
 have f1:∀z,z∈P++x::R→(Apart z x∨Apart x z)→(∀b∈z.S,b ∉ x.S)∧(∀b∈z.nbs,b ∉ x.S)∧(∀b∈z.S,b ∉ S')∧(∀b∈z.nbs,b ∉ S')∧∀b∈nbs,b ∉ z.S:=by
  intro z hz h
  have g1:(∀b∈z.S,b ∉ x.S)∧(∀b∈z.nbs,b ∉ x.S)∧∀b∈nbs,b ∉ z.S:=by
   rw[←hnb]
   rcases h with⟨p1,p2,p3⟩|⟨p1,p2,p3⟩
   ·exact⟨p1,p2,p3⟩
   ·exact⟨fun b hb hm=>p1 b hm hb,p3,p2⟩
  refine⟨g1.1,g1.2.1,fun b hb hm=>?_,fun b hb hm=>?_,g1.2.2⟩
  ·rcases A.sub b hm with hm | hm
   ·exact g1.1 b hb hm
   ·have := (hl z hz).1 b hb
    omega
  ·rcases A.sub b hm with hm | hm
   ·exact g1.2.1 b hb hm
   ·have := (hl z hz).2 b hb
    omega
 have inP:∀z∈P,z∈P++x::R:=fun z hz=>List.mem_append_left _ hz;have inR:∀z∈R,z∈P++x::R:=fun z hz=>List.mem_append_right _ (List.mem_cons_of_mem _ hz);have fP:∀z∈P,_:=fun z hz=>f1 z (inP z hz) (.inl (a4 z hz x List.mem_cons_self));have fR:∀z∈R,_:=fun z hz=>f1 z (inR z hz) (.inr (a2 z hz));refine⟨fun z hz=>?_,?_,fun o ho=>?_,A.tz,A.ex⟩
 ·rcases List.mem_append.1 hz with hz | hz
  ·exact(K1.mats z (inP z hz)).tch A.tch (fP z hz).1 (fP z hz).2.1
  rcases List.mem_cons.1 hz with rfl|hz
  ·exact A.mat
  ·exact(K1.mats z (inR z hz)).tch A.tch (fR z hz).1 (fR z hz).2.1
 ·rw [List.pairwise_append, List.pairwise_cons]
  refine⟨a1,⟨fun z hz=>⟨fun b hb hm=>(fR z hz).2.2.1 b hm hb,(fR z hz).2.2.2.2,(fR z hz).2.2.2.1⟩,a3⟩,fun z hz w hw=>?_⟩
  rcases List.mem_cons.1 hw with rfl|hw
  ·exact⟨(fP z hz).2.2.1,(fP z hz).2.2.2.1,(fP z hz).2.2.2.2⟩
  ·exact a4 z hz w (List.mem_cons_of_mem _ hw)
 ·rcases List.mem_cons.1 ho with rfl | ho
  ·refine ⟨A.out, fun b hb z hz => ?_⟩
   have hb:=A.ob b hb
   rcases List.mem_append.1 hz with hz|hz
   ·intro hm
    have:=(hl z (inP z hz)).1 b hm;omega
   rcases List.mem_cons.1 hz with rfl|hz
   ·exact hb.2
   ·intro hm
    have:=(hl z (inR z hz)).1 b hm;omega
  ·have ko := K1.outs o ho
   refine⟨ko.1.tch A.tch fun b hb=>ko.2 b hb x hxL,fun b hb z hz=>?_⟩
   rcases List.mem_append.1 hz with hz|hz
   ·exact ko.2 b hb z (inP z hz)
   rcases List.mem_cons.1 hz with rfl|hz
   ·intro hm
    have:=ko.1.lt b hb
    rcases A.sub b hm with hm|hm
    ·exact ko.2 b hb x hxL hm
    ·omega
   ·exact ko.2 b hb z (inR z hz)
end
noncomputable def zee(call:zd)(_:Nat)(t0:AV)(t1:z11)(t2:z11)(t3:z11)(h:AHeap):R:=callN (call 4 [] h) fun r28 h_4=>obind (z23 r28) fun t28=>lett (!t28) fun (t29:Bool)=>ifB t29 (some (.ret (.bool false),h_4)) (callN (call 5 [AV.nilp,z19 t1] h_4) fun r33 h_11=>obind (z12b 0 r33) fun v34=>obind (avInt .i64 v34) fun t34=>obind (z12b 1 r33) fun v35=>obind (z75 v35) fun t35=>obind (z12b 2 r33) fun v36=>obind (z23 v36) fun t36=>lett (newH h_11 26 [.int .i64 0,.int .i64 0,.int .i64 0]) fun h_19=>obind (z17 h_19 3 t35 (z7 h_11)) fun h_21=>lett ((t34:Int) != 0) fun (t38:Bool)=>lett (fun (t43:Bool) (h_26:AHeap)=>lett (fun (t46:Bool) (h_29:AHeap)=>lett (fun (t51:Bool) (h_32:AHeap)=>lett (fun (t56:Bool) (h_35:AHeap)=>ifB t56 (some (.ret (.bool false),h_35)) (callN (call 8 [t0] h_35) fun r59 h_40=>obind (z12b 0 r59) fun v60=>obind (z12b 1 r59) fun v61=>obind (avInt .i64 v61) fun t61=>callN (call 8 [t0] h_40) fun r64 h_46=>obind (z12b 0 r64) fun v65=>obind (z12b 1 r64) fun v66=>obind (avInt .i64 v66) fun t66=>callN (call 8 [t0] h_46) fun r69 h_52=>obind (z12b 0 r69) fun v70=>obind (z12b 1 r69) fun v71=>obind (avInt .i64 v71) fun t71=>lett ((t61:Int) != 0) fun (t73:Bool)=>lett (fun (t77:Bool) (h_60:AHeap)=>lett (fun (t81:Bool) (h_63:AHeap)=>lett (fun (t92:Bool) (h_66:AHeap)=>ifB t92 (lett ((t61:Int) == 0) fun (t94:Bool)=>lett ((t66:Int) == 0) fun (t96:Bool)=>lett ((t94:Bool) == t96) fun (t97:Bool)=>lett (fun (t104:Bool) (h_73:AHeap)=>some (.ret (.bool t104),h_73)) fun j104=>ifB t97 (lett ((t61:Int) == 0) fun (t100:Bool)=>lett ((t71:Int) == 0) fun (t102:Bool)=>lett ((t100:Bool) == t102) fun (t103:Bool)=>j104 t103 h_66) (j104 false h_66)) (outK (zdb Tryd.prog h_66 37 1 [(0,z19 t1)]) fun v107 h_80=>callN (call 9 [v60,v107] h_80) fun _ h_82=>callN (call 7 [v60] h_82) fun r110 h_85=>outK (zc1 Tryd.prog h_85 .eql 24 true (some r110) (some AV.nilp)) fun v112 h_89=>obind (z23 v112) fun t112=>lett (fun (t117:Bool) (h_92:AHeap)=>lett (fun (t124:Bool) (h_95:AHeap)=>ifB t124 (some (.ret (.bool false),h_95)) (outK (zdb Tryd.prog h_95 37 1 [(0,z19 t1)]) fun v127 h_100=>callN (call 9 [v65,v127] h_100) fun _ h_102=>outK (zdb Tryd.prog h_102 37 1 [(0,z19 t1)]) fun v131 h_105=>callN (call 9 [v70,v131] h_105) fun _ h_107=>outK (zdb Tryd.prog h_107 37 1 [(0,z19 t2)]) fun v136 h_110=>callN (call 9 [v60,v136] h_110) fun r137 h_112=>obind (z12b 0 r137) fun v138=>obind (z12b 1 r137) fun v139=>obind (z23 v139) fun t139=>outK (zdb Tryd.prog h_112 37 1 [(0,z19 t3)]) fun v143 h_118=>callN (call 9 [r110,v143] h_118) fun r144 h_120=>obind (z12b 0 r144) fun v145=>obind (z12b 1 r144) fun v146=>obind (z23 v146) fun t146=>outK (zdb Tryd.prog h_120 37 1 [(0,z19 t2)]) fun v150 h_126=>callN (call 9 [v65,v150] h_126) fun r151 h_128=>obind (z12b 0 r151) fun v152=>obind (z12b 1 r151) fun v153=>obind (z23 v153) fun t153=>outK (zdb Tryd.prog h_128 37 1 [(0,z19 t3)]) fun v157 h_134=>callN (call 9 [v70,v157] h_134) fun r158 h_136=>obind (z12b 0 r158) fun v159=>obind (z12b 1 r158) fun v160=>obind (z23 v160) fun t160=>lett (fun (t164:Bool) (h_142:AHeap)=>lett (fun (t167:Bool) (h_145:AHeap)=>lett (fun (t170:Bool) (h_148:AHeap)=>lett (fun (t175:Bool) (h_151:AHeap)=>lett (fun (t180:Bool) (h_154:AHeap)=>lett (fun (t187:Bool) (h_157:AHeap)=>lett (fun (t194:Bool) (h_160:AHeap)=>some (.ret (.bool t194),h_160)) fun j194=>ifB t187 (callN (call 6 [r110] h_157) fun r190 h_163=>obind (z16f r190) fun t190=>callN (call 6 [v70] h_163) fun r192 h_166=>obind (z16f r192) fun t192=>lett (eqS t190 t192) fun (t193:Bool)=>j194 t193 h_166) (j194 false h_157)) fun j187=>ifB t180 (callN (call 6 [v60] h_154) fun r183 h_170=>obind (z16f r183) fun t183=>callN (call 6 [v65] h_170) fun r185 h_173=>obind (z16f r185) fun t185=>lett (eqS t183 t185) fun (t186:Bool)=>j187 t186 h_173) (j187 false h_154)) fun j180=>ifB t175 (callN (call 10 [v145,v159] h_151) fun r179 h_177=>obind (z23 r179) fun t179=>j180 t179 h_177) (j180 false h_151)) fun j175=>ifB t170 (callN (call 10 [v138,v152] h_148) fun r174 h_180=>obind (z23 r174) fun t174=>j175 t174 h_180) (j175 false h_148)) fun j170=>ifB t167 (j170 t160 h_145) (j170 false h_145)) fun j167=>ifB t164 (j167 t153 h_142) (j167 false h_142)) fun j164=>ifB t139 (j164 t146 h_136) (j164 false h_136))) fun j124=>ifB t117 (j124 true h_92) (callN (call 6 [r110] h_92) fun r120 h_183=>obind (z16f r120) fun t120=>callN (call 6 [v60] h_183) fun r122 h_186=>obind (z16f r122) fun t122=>lett (!eqS t120 t122) fun (t123:Bool)=>j124 t123 h_186)) fun j117=>ifB t112 (j117 true h_89) (outK (z202 Tryd.prog h_89 .eql 24 false (some r110) (some v60)) fun v116 h_190=>obind (z23 v116) fun t116=>j117 t116 h_190))) fun j92=>ifB t81 (j92 true h_63) (lett (IntKind.i64.wrap ((z15b t1)+(z15b t2))) fun (t87:Int)=>lett (IntKind.i64.wrap (t87+(z15b t3))) fun (t90:Int)=>lett (decide (t90>600)) fun (t91:Bool)=>j92 t91 h_63)) fun j81=>ifB t77 (j81 true h_60) (lett ((t71:Int) != 0) fun (t80:Bool)=>j81 t80 h_60)) fun j77=>ifB t73 (j77 true h_52) (lett ((t66:Int) != 0) fun (t76:Bool)=>j77 t76 h_52))) fun j56=>ifB t51 (j56 true h_32) (callN (call 7 [AV.nilp] h_32) fun r54 h_198=>outK (zc1 Tryd.prog h_198 .neq 24 true (some r54) (some AV.nilp)) fun v55 h_200=>obind (z23 v55) fun t55=>j56 t55 h_200)) fun j51=>ifB t46 (j51 true h_29) (callN (call 6 [AV.nilp] h_29) fun r49 h_203=>obind (z16f r49) fun t49=>lett (!eqS t49 ([]:z11)) fun (t50:Bool)=>j51 t50 h_203)) fun j46=>ifB t43 (j46 true h_26) (j46 t36 h_26)) fun j43=>ifB t38 (j43 true h_21) (obind (z18 h_21 3 (z7 h_11)) fun t40=>obind (zab Tryd.prog 26 (.agg t40) (.agg ([.int .i64 0,.int .i64 0,.int .i64 0]:List AV))) fun t42=>lett (!t42) fun (t42_209:Bool)=>j43 t42_209 h_21))
set_option maxHeartbeats 4000000 in
set_option maxRecDepth 20000 in
theorem z1fd{call:zd}(hc:SaysAll Tryd.prog call){n:Nat}{t0:AV}{t1:z11}{t2:z11}{t3:z11}{h:AHeap}{rR:ARes}{hR:AHeap}(hF:zee call n t0 t1 t2 t3 h=some (rR,hR)):Says Tryd.prog 3 [t0,z19 t1,z19 t2,z19 t3] h rR hR:=by
 unfold zee at hF;refine sO Tryd.func3 fun w0 m0=>?_;refine wW [(0,t0),(1,z19 t1),(2,z19 t2),(3,z19 t3)] ?_;refine oG fun n1=>W.r ?_;refine oA 8 (.bool false) ?_;refine oV [(0,t0),(1,z19 t1),(2,z19 t2),(3,z19 t3)] (n1 ?_);refine oH fun n2 q2=>?_;refine oG fun n3=>W.r ?_;refine oCb hc 28 hF fun t28 h_4 hF=>?_;refine oB 29 hF fun t29 hF=>?_;refine oV [(0,t0),(1,z19 t1),(2,z19 t2),(3,z19 t3),(29,.bool t29)] (n3 ?_)
 cases t29 with
 |true=>
  refine oT hF fun hF=>?_;refine oG fun n8=>W.r ?_;refine oA 8 (.bool false) ?_;refine oV [(8,.bool false)] (n8 (oY (q2 ?_)));exact lZ hF [.tmp 8] [.bool false] (rT zf)
 |false=>
  refine oU hF fun hF=>?_;refine oZ (n2 ?_);refine oG fun n9=>W.r ?_;refine oA 9 AV.nilp ?_;refine oV [(0,t0),(1,z19 t1),(2,z19 t2),(3,z19 t3),(9,AV.nilp)] (n9 ?_);refine oG fun n10=>W.r ?_;refine oA 31 AV.nilp ?_;refine oA 32 (z19 t1) ?_;refine oC hc (some 33) hF fun r33 h_11 hF=>?_;refine oA 30 r33 ?_;refine oEi 34 hF fun t34 hF=>?_;refine oEa 35 hF fun t35 hF=>?_;refine oEb 36 hF fun t36 hF=>?_;refine oN 11 hF fun h_19 hF=>?_;refine oA 10 (.int .i64 t34) ?_;refine oW 26 (.agg t35) hF fun h_21 hF=>?_;refine oA 12 (.bool t36) ?_;refine oV [(0,t0),(1,z19 t1),(2,z19 t2),(3,z19 t3),(9,AV.nilp),(10,.int .i64 t34),(11,(z7 h_11)),(12,.bool t36)] (n10 ?_);refine oH fun n23 q23=>?_;refine W.s (fun K24 n24 e24 q24 p24=>?_);refine W.r ?_;refine oA 37 (.int .i64 t34) ?_;refine oB 38 hF fun t38 hF=>?_;refine oA 39 (.bool t38) ?_;obtain⟨j43,e27,hF⟩:=zc hF
  have J28:∀(t43:Bool) (h_26:AHeap),j43 t43 h_26=some (rR,hR)→WL Tryd.prog w0 m0 (Func.ntmps Tryd.f3) (Code.ops (y6 (y6 (y3 (y3 (y3 (y3 (z4e Tryd.f3)))))))) 7 K24 [(0,t0),(1,z19 t1),(2,z19 t2),(3,z19 t3),(9,AV.nilp),(12,.bool t36),(43,.bool t43)] [] h_26:=by
   intro t43 h_26 hF;rw[e27] at hF;refine oA 44 (.bool t43) ?_;obtain⟨j46,e30,hF⟩:=zc hF
   have J31:∀(t46:Bool) (h_29:AHeap),j46 t46 h_29=some (rR,hR)→WL Tryd.prog w0 m0 (Func.ntmps Tryd.f3) (Code.ops (y6 (y6 (y3 (y3 (y3 (y3 (z4e Tryd.f3)))))))) 10 K24 [(0,t0),(1,z19 t1),(2,z19 t2),(3,z19 t3),(9,AV.nilp),(46,.bool t46)] [] h_29:=by
    intro t46 h_29 hF;rw[e30] at hF;refine oA 47 (.bool t46) ?_;obtain⟨j51,e33,hF⟩:=zc hF
    have J34:∀(t51:Bool) (h_32:AHeap),j51 t51 h_32=some (rR,hR)→WL Tryd.prog w0 m0 (Func.ntmps Tryd.f3) (Code.ops (y6 (y6 (y3 (y3 (y3 (y3 (z4e Tryd.f3)))))))) 15 K24 [(0,t0),(1,z19 t1),(2,z19 t2),(3,z19 t3),(9,AV.nilp),(51,.bool t51)] [] h_32:=by
     intro t51 h_32 hF;rw[e33] at hF;refine oA 52 (.bool t51) ?_;obtain⟨j56,e36,hF⟩:=zc hF
     have J37:∀(t56:Bool) (h_35:AHeap),j56 t56 h_35=some (rR,hR)→WL Tryd.prog w0 m0 (Func.ntmps Tryd.f3) (Code.ops (y6 (y6 (y3 (y3 (y3 (y3 (z4e Tryd.f3)))))))) 20 K24 [(0,t0),(1,z19 t1),(2,z19 t2),(3,z19 t3),(56,.bool t56)] [] h_35:=by
      intro t56 h_35 hF;rw[e36] at hF;refine oV [(0,t0),(1,z19 t1),(2,z19 t2),(3,z19 t3),(56,.bool t56)] (n24 ?_)
      cases t56 with
      |true=>
       refine oT hF fun hF=>?_;refine oG fun n38=>W.r ?_;refine oA 8 (.bool false) ?_;refine oV [(8,.bool false)] (n38 (oY (q23 ?_)));exact lZ hF [.tmp 8] [.bool false] (rT zf)
      |false=>
       refine oU hF fun hF=>?_;refine oZ (n23 ?_);refine oG fun n39=>W.r ?_;refine oA 58 t0 ?_;refine oC hc (some 59) hF fun r59 h_40 hF=>?_;refine oA 57 r59 ?_;refine oE 60 hF fun v60 hF=>?_;refine oEi 61 hF fun t61 hF=>?_;refine oA 13 v60 ?_;refine oA 14 (.int .i64 t61) ?_;refine oV [(0,t0),(1,z19 t1),(2,z19 t2),(3,z19 t3),(13,v60),(14,.int .i64 t61)] (n39 ?_);refine oG fun n45=>W.r ?_;refine oA 63 t0 ?_;refine oC hc (some 64) hF fun r64 h_46 hF=>?_;refine oA 62 r64 ?_;refine oE 65 hF fun v65 hF=>?_;refine oEi 66 hF fun t66 hF=>?_;refine oA 15 v65 ?_;refine oA 16 (.int .i64 t66) ?_;refine oV [(0,t0),(1,z19 t1),(2,z19 t2),(3,z19 t3),(13,v60),(14,.int .i64 t61),(15,v65),(16,.int .i64 t66)] (n45 ?_);refine oG fun n51=>W.r ?_;refine oA 68 t0 ?_;refine oC hc (some 69) hF fun r69 h_52 hF=>?_;refine oA 67 r69 ?_;refine oE 70 hF fun v70 hF=>?_;refine oEi 71 hF fun t71 hF=>?_;refine oA 17 v70 ?_;refine oA 18 (.int .i64 t71) ?_;refine oV [(1,z19 t1),(2,z19 t2),(3,z19 t3),(13,v60),(14,.int .i64 t61),(15,v65),(16,.int .i64 t66),(17,v70),(18,.int .i64 t71)] (n51 ?_);refine oH fun n57 q57=>?_;refine W.s (fun K58 n58 e58 q58 p58=>?_);refine W.r ?_;refine oA 72 (.int .i64 t61) ?_;refine oB 73 hF fun t73 hF=>?_;refine oA 74 (.bool t73) ?_;obtain⟨j77,e61,hF⟩:=zc hF
       have J62:∀(t77:Bool) (h_60:AHeap),j77 t77 h_60=some (rR,hR)→WL Tryd.prog w0 m0 (Func.ntmps Tryd.f3) (Code.ops (y6 (y6 (y3 (y3 (y3 (y3 (y3 (y3 (y3 (y3 (z4e Tryd.f3)))))))))))) 6 K58 [(1,z19 t1),(2,z19 t2),(3,z19 t3),(13,v60),(14,.int .i64 t61),(15,v65),(16,.int .i64 t66),(17,v70),(18,.int .i64 t71),(77,.bool t77)] [] h_60:=by
        intro t77 h_60 hF;rw[e61] at hF;refine oA 78 (.bool t77) ?_;obtain⟨j81,e64,hF⟩:=zc hF
        have J65:∀(t81:Bool) (h_63:AHeap),j81 t81 h_63=some (rR,hR)→WL Tryd.prog w0 m0 (Func.ntmps Tryd.f3) (Code.ops (y6 (y6 (y3 (y3 (y3 (y3 (y3 (y3 (y3 (y3 (z4e Tryd.f3)))))))))))) 10 K58 [(1,z19 t1),(2,z19 t2),(3,z19 t3),(13,v60),(14,.int .i64 t61),(15,v65),(16,.int .i64 t66),(17,v70),(18,.int .i64 t71),(81,.bool t81)] [] h_63:=by
         intro t81 h_63 hF;rw[e64] at hF;refine oA 82 (.bool t81) ?_;obtain⟨j92,e67,hF⟩:=zc hF
         have J68:∀(t92:Bool) (h_66:AHeap),j92 t92 h_66=some (rR,hR)→WL Tryd.prog w0 m0 (Func.ntmps Tryd.f3) (Code.ops (y6 (y6 (y3 (y3 (y3 (y3 (y3 (y3 (y3 (y3 (z4e Tryd.f3)))))))))))) 21 K58 [(1,z19 t1),(2,z19 t2),(3,z19 t3),(13,v60),(14,.int .i64 t61),(15,v65),(16,.int .i64 t66),(17,v70),(18,.int .i64 t71),(92,.bool t92)] [] h_66:=by
          intro t92 h_66 hF;rw[e67] at hF;refine oV [(1,z19 t1),(2,z19 t2),(3,z19 t3),(13,v60),(14,.int .i64 t61),(15,v65),(16,.int .i64 t66),(17,v70),(18,.int .i64 t71),(92,.bool t92)] (n58 ?_)
          cases t92 with
          |true=>
           refine oT hF fun hF=>?_;refine W.s (fun K69 n69 e69 q69 p69=>?_);refine W.r ?_;refine oA 93 (.int .i64 t61) ?_;refine oB 94 hF fun t94 hF=>?_;refine oA 95 (.int .i64 t66) ?_;refine oB 96 hF fun t96 hF=>?_;refine oB 97 hF fun t97 hF=>?_;refine oA 98 (.bool t97) ?_;obtain⟨j104,e74,hF⟩:=zc hF
           have J75:∀(t104:Bool) (h_73:AHeap),j104 t104 h_73=some (rR,hR)→WL Tryd.prog w0 m0 (Func.ntmps Tryd.f3) (Code.ops (y6 (y6 (y3 (y6 (y3 (y3 (y3 (y3 (y3 (y3 (y3 (y3 (z4e Tryd.f3)))))))))))))) 12 K69 [(104,.bool t104)] [] h_73:=by
            intro t104 h_73 hF;rw[e74] at hF;refine oA 8 (.bool t104) ?_;refine oV [(8,.bool t104)] (n69 (oY (q57 ?_)));exact lZ hF [.tmp 8] [.bool t104] (rT zf)
           cases t97 with
           |true=>
            replace hF:=zae hF
            refine oA 99 (.int .i64 t61) ?_;refine oB 100 hF fun t100 hF=>?_;refine oA 101 (.int .i64 t71) ?_;refine oB 102 hF fun t102 hF=>?_;refine oB 103 hF fun t103 hF=>?_;refine oA 104 (.bool t103) ?_;exact lW _ (J75 _ _ hF)
           |false=>
            replace hF:=zaf hF
            refine WL.o (some 99) ?_;refine WL.o (some 100) ?_;refine WL.o (some 101) ?_;refine WL.o (some 102) ?_;refine WL.o (some 103) ?_;refine oA 104 (.bool false) ?_;exact lW _ (J75 _ _ hF)
          |false=>
           refine oU hF fun hF=>?_;refine oZ (n57 ?_);refine oG fun n79=>W.r ?_;refine oA 105 v60 ?_;refine oA 106 (z19 t1) ?_;refine oK 107 hF fun v107 h_80 hF=>?_;refine oC hc (some 108) hF fun r108 h_82 hF=>?_;refine oV [(1,z19 t1),(2,z19 t2),(3,z19 t3),(13,v60),(15,v65),(17,v70)] (n79 ?_);refine oG fun n84=>W.r ?_;refine oA 109 v60 ?_;refine oC hc (some 110) hF fun r110 h_85 hF=>?_;refine oA 19 r110 ?_;refine oV [(1,z19 t1),(2,z19 t2),(3,z19 t3),(13,v60),(15,v65),(17,v70),(19,r110)] (n84 ?_);refine oH fun n87 q87=>?_;refine W.s (fun K88 n88 e88 q88 p88=>?_);refine W.r ?_;refine oA 111 r110 ?_
           replace hF:=z27 hF;obtain⟨v112,h_89,e90,hF⟩:=hF
           replace hF:=z4 hF;obtain⟨t112,c91,hF⟩:=hF
           have c91:=z34 c91;subst c91;refine WL.b (some 112) (.bool t112) h_89 e90 ?_;refine oA 113 (.bool t112) ?_;obtain⟨j117,e93,hF⟩:=zc hF
           have J94:∀(t117:Bool) (h_92:AHeap),j117 t117 h_92=some (rR,hR)→WL Tryd.prog w0 m0 (Func.ntmps Tryd.f3) (Code.ops (y6 (y6 (y3 (y3 (y3 (y3 (y3 (y3 (y3 (y3 (y3 (y3 (y3 (z4e Tryd.f3))))))))))))))) 7 K88 [(1,z19 t1),(2,z19 t2),(3,z19 t3),(13,v60),(15,v65),(17,v70),(19,r110),(117,.bool t117)] [] h_92:=by
            intro t117 h_92 hF;rw[e93] at hF;refine oA 118 (.bool t117) ?_;obtain⟨j124,e96,hF⟩:=zc hF
            have J97:∀(t124:Bool) (h_95:AHeap),j124 t124 h_95=some (rR,hR)→WL Tryd.prog w0 m0 (Func.ntmps Tryd.f3) (Code.ops (y6 (y6 (y3 (y3 (y3 (y3 (y3 (y3 (y3 (y3 (y3 (y3 (y3 (z4e Tryd.f3))))))))))))))) 14 K88 [(1,z19 t1),(2,z19 t2),(3,z19 t3),(13,v60),(15,v65),(17,v70),(19,r110),(124,.bool t124)] [] h_95:=by
             intro t124 h_95 hF;rw[e96] at hF;refine oV [(1,z19 t1),(2,z19 t2),(3,z19 t3),(13,v60),(15,v65),(17,v70),(19,r110),(124,.bool t124)] (n88 ?_)
             cases t124 with
             |true=>
              refine oT hF fun hF=>?_;refine oG fun n98=>W.r ?_;refine oA 8 (.bool false) ?_;refine oV [(8,.bool false)] (n98 (oY (q87 ?_)));exact lZ hF [.tmp 8] [.bool false] (rT zf)
             |false=>
              refine oU hF fun hF=>?_;refine oZ (n87 ?_);refine oG fun n99=>W.r ?_;refine oA 125 v65 ?_;refine oA 126 (z19 t1) ?_;refine oK 127 hF fun v127 h_100 hF=>?_;refine oC hc (some 128) hF fun r128 h_102 hF=>?_;refine oV [(1,z19 t1),(2,z19 t2),(3,z19 t3),(13,v60),(15,v65),(17,v70),(19,r110)] (n99 ?_);refine oG fun n104=>W.r ?_;refine oA 129 v70 ?_;refine oA 130 (z19 t1) ?_;refine oK 131 hF fun v131 h_105 hF=>?_;refine oC hc (some 132) hF fun r132 h_107 hF=>?_;refine oV [(2,z19 t2),(3,z19 t3),(13,v60),(15,v65),(17,v70),(19,r110)] (n104 ?_);refine oG fun n109=>W.r ?_;refine oA 134 v60 ?_;refine oA 135 (z19 t2) ?_;refine oK 136 hF fun v136 h_110 hF=>?_;refine oC hc (some 137) hF fun r137 h_112 hF=>?_;refine oA 133 r137 ?_;refine oE 138 hF fun v138 hF=>?_;refine oEb 139 hF fun t139 hF=>?_;refine oA 20 v138 ?_;refine oA 21 (.bool t139) ?_;refine oV [(2,z19 t2),(3,z19 t3),(13,v60),(15,v65),(17,v70),(19,r110),(20,v138),(21,.bool t139)] (n109 ?_);refine oG fun n117=>W.r ?_;refine oA 141 r110 ?_;refine oA 142 (z19 t3) ?_;refine oK 143 hF fun v143 h_118 hF=>?_;refine oC hc (some 144) hF fun r144 h_120 hF=>?_;refine oA 140 r144 ?_;refine oE 145 hF fun v145 hF=>?_;refine oEb 146 hF fun t146 hF=>?_;refine oA 22 v145 ?_;refine oA 23 (.bool t146) ?_;refine oV [(2,z19 t2),(3,z19 t3),(13,v60),(15,v65),(17,v70),(19,r110),(20,v138),(21,.bool t139),(22,v145),(23,.bool t146)] (n117 ?_);refine oG fun n125=>W.r ?_;refine oA 148 v65 ?_;refine oA 149 (z19 t2) ?_;refine oK 150 hF fun v150 h_126 hF=>?_;refine oC hc (some 151) hF fun r151 h_128 hF=>?_;refine oA 147 r151 ?_;refine oE 152 hF fun v152 hF=>?_;refine oEb 153 hF fun t153 hF=>?_;refine oA 24 v152 ?_;refine oA 25 (.bool t153) ?_;refine oV [(3,z19 t3),(13,v60),(15,v65),(17,v70),(19,r110),(20,v138),(21,.bool t139),(22,v145),(23,.bool t146),(24,v152),(25,.bool t153)] (n125 ?_);refine oG fun n133=>W.r ?_;refine oA 155 v70 ?_;refine oA 156 (z19 t3) ?_;refine oK 157 hF fun v157 h_134 hF=>?_;refine oC hc (some 158) hF fun r158 h_136 hF=>?_;refine oA 154 r158 ?_;refine oE 159 hF fun v159 hF=>?_;refine oEb 160 hF fun t160 hF=>?_;refine oA 26 v159 ?_;refine oA 27 (.bool t160) ?_;refine oV [(13,v60),(15,v65),(17,v70),(19,r110),(20,v138),(21,.bool t139),(22,v145),(23,.bool t146),(24,v152),(25,.bool t153),(26,v159),(27,.bool t160)] (n133 ?_);refine W.s (fun K141 n141 e141 q141 p141=>?_);refine W.r ?_;refine oA 161 (.bool t139) ?_;refine oA 162 (.bool t139) ?_;obtain⟨j164,e143,hF⟩:=zc hF
              have J144:∀(t164:Bool) (h_142:AHeap),j164 t164 h_142=some (rR,hR)→WL Tryd.prog w0 m0 (Func.ntmps Tryd.f3) (Code.ops (y6 (y3 (y3 (y3 (y3 (y3 (y3 (y3 (y3 (y3 (y3 (y3 (y3 (y3 (y3 (y3 (y3 (y3 (y3 (z4e Tryd.f3))))))))))))))))))))) 4 K141 [(13,v60),(15,v65),(17,v70),(19,r110),(20,v138),(22,v145),(24,v152),(25,.bool t153),(26,v159),(27,.bool t160),(164,.bool t164)] [] h_142:=by
               intro t164 h_142 hF;rw[e143] at hF;refine oA 165 (.bool t164) ?_;obtain⟨j167,e146,hF⟩:=zc hF
               have J147:∀(t167:Bool) (h_145:AHeap),j167 t167 h_145=some (rR,hR)→WL Tryd.prog w0 m0 (Func.ntmps Tryd.f3) (Code.ops (y6 (y3 (y3 (y3 (y3 (y3 (y3 (y3 (y3 (y3 (y3 (y3 (y3 (y3 (y3 (y3 (y3 (y3 (y3 (z4e Tryd.f3))))))))))))))))))))) 7 K141 [(13,v60),(15,v65),(17,v70),(19,r110),(20,v138),(22,v145),(24,v152),(26,v159),(27,.bool t160),(167,.bool t167)] [] h_145:=by
                intro t167 h_145 hF;rw[e146] at hF;refine oA 168 (.bool t167) ?_;obtain⟨j170,e149,hF⟩:=zc hF
                have J150:∀(t170:Bool) (h_148:AHeap),j170 t170 h_148=some (rR,hR)→WL Tryd.prog w0 m0 (Func.ntmps Tryd.f3) (Code.ops (y6 (y3 (y3 (y3 (y3 (y3 (y3 (y3 (y3 (y3 (y3 (y3 (y3 (y3 (y3 (y3 (y3 (y3 (y3 (z4e Tryd.f3))))))))))))))))))))) 10 K141 [(13,v60),(15,v65),(17,v70),(19,r110),(20,v138),(22,v145),(24,v152),(26,v159),(170,.bool t170)] [] h_148:=by
                 intro t170 h_148 hF;rw[e149] at hF;refine oA 171 (.bool t170) ?_;obtain⟨j175,e152,hF⟩:=zc hF
                 have J153:∀(t175:Bool) (h_151:AHeap),j175 t175 h_151=some (rR,hR)→WL Tryd.prog w0 m0 (Func.ntmps Tryd.f3) (Code.ops (y6 (y3 (y3 (y3 (y3 (y3 (y3 (y3 (y3 (y3 (y3 (y3 (y3 (y3 (y3 (y3 (y3 (y3 (y3 (z4e Tryd.f3))))))))))))))))))))) 15 K141 [(13,v60),(15,v65),(17,v70),(19,r110),(22,v145),(26,v159),(175,.bool t175)] [] h_151:=by
                  intro t175 h_151 hF;rw[e152] at hF;refine oA 176 (.bool t175) ?_;obtain⟨j180,e155,hF⟩:=zc hF
                  have J156:∀(t180:Bool) (h_154:AHeap),j180 t180 h_154=some (rR,hR)→WL Tryd.prog w0 m0 (Func.ntmps Tryd.f3) (Code.ops (y6 (y3 (y3 (y3 (y3 (y3 (y3 (y3 (y3 (y3 (y3 (y3 (y3 (y3 (y3 (y3 (y3 (y3 (y3 (z4e Tryd.f3))))))))))))))))))))) 20 K141 [(13,v60),(15,v65),(17,v70),(19,r110),(180,.bool t180)] [] h_154:=by
                   intro t180 h_154 hF;rw[e155] at hF;refine oA 181 (.bool t180) ?_;obtain⟨j187,e158,hF⟩:=zc hF
                   have J159:∀(t187:Bool) (h_157:AHeap),j187 t187 h_157=some (rR,hR)→WL Tryd.prog w0 m0 (Func.ntmps Tryd.f3) (Code.ops (y6 (y3 (y3 (y3 (y3 (y3 (y3 (y3 (y3 (y3 (y3 (y3 (y3 (y3 (y3 (y3 (y3 (y3 (y3 (z4e Tryd.f3))))))))))))))))))))) 27 K141 [(17,v70),(19,r110),(187,.bool t187)] [] h_157:=by
                    intro t187 h_157 hF;rw[e158] at hF;refine oA 188 (.bool t187) ?_;obtain⟨j194,e161,hF⟩:=zc hF
                    have J162:∀(t194:Bool) (h_160:AHeap),j194 t194 h_160=some (rR,hR)→WL Tryd.prog w0 m0 (Func.ntmps Tryd.f3) (Code.ops (y6 (y3 (y3 (y3 (y3 (y3 (y3 (y3 (y3 (y3 (y3 (y3 (y3 (y3 (y3 (y3 (y3 (y3 (y3 (z4e Tryd.f3))))))))))))))))))))) 34 K141 [(194,.bool t194)] [] h_160:=by
                     intro t194 h_160 hF;rw[e161] at hF;refine oA 8 (.bool t194) ?_;refine oV [(8,.bool t194)] (n141 (oY ?_));exact lZ hF [.tmp 8] [.bool t194] (rT zf)
                    cases t187 with
                    |true=>
                     replace hF:=zae hF
                     refine oA 189 r110 ?_;refine oCs hc 190 hF fun t190 h_163 hF=>?_;refine oA 191 v70 ?_;refine oCs hc 192 hF fun t192 h_166 hF=>?_;refine oB 193 hF fun t193 hF=>?_;refine oA 194 (.bool t193) ?_;exact lW _ (J162 _ _ hF)
                    |false=>
                     replace hF:=zaf hF
                     refine WL.o (some 189) ?_;refine WL.o (some 190) ?_;refine WL.o (some 191) ?_;refine WL.o (some 192) ?_;refine WL.o (some 193) ?_;refine oA 194 (.bool false) ?_;exact lW _ (J162 _ _ hF)
                   cases t180 with
                   |true=>
                    replace hF:=zae hF
                    refine oA 182 v60 ?_;refine oCs hc 183 hF fun t183 h_170 hF=>?_;refine oA 184 v65 ?_;refine oCs hc 185 hF fun t185 h_173 hF=>?_;refine oB 186 hF fun t186 hF=>?_;refine oA 187 (.bool t186) ?_;exact lW _ (J159 _ _ hF)
                   |false=>
                    replace hF:=zaf hF
                    refine WL.o (some 182) ?_;refine WL.o (some 183) ?_;refine WL.o (some 184) ?_;refine WL.o (some 185) ?_;refine WL.o (some 186) ?_;refine oA 187 (.bool false) ?_;exact lW _ (J159 _ _ hF)
                  cases t175 with
                  |true=>
                   replace hF:=zae hF
                   refine oA 177 v145 ?_;refine oA 178 v159 ?_;refine oCb hc 179 hF fun t179 h_177 hF=>?_;refine oA 180 (.bool t179) ?_;exact lW _ (J156 _ _ hF)
                  |false=>
                   replace hF:=zaf hF
                   refine WL.o (some 177) ?_;refine WL.o (some 178) ?_;refine WL.o (some 179) ?_;refine oA 180 (.bool false) ?_;exact lW _ (J156 _ _ hF)
                 cases t170 with
                 |true=>
                  replace hF:=zae hF
                  refine oA 172 v138 ?_;refine oA 173 v152 ?_;refine oCb hc 174 hF fun t174 h_180 hF=>?_;refine oA 175 (.bool t174) ?_;exact lW _ (J153 _ _ hF)
                 |false=>
                  replace hF:=zaf hF
                  refine WL.o (some 172) ?_;refine WL.o (some 173) ?_;refine WL.o (some 174) ?_;refine oA 175 (.bool false) ?_;exact lW _ (J153 _ _ hF)
                cases t167 with
                |true=>
                 replace hF:=zae hF
                 refine oA 169 (.bool t160) ?_;refine oA 170 (.bool t160) ?_;exact lW _ (J150 _ _ hF)
                |false=>
                 replace hF:=zaf hF
                 refine WL.o (some 169) ?_;refine oA 170 (.bool false) ?_;exact lW _ (J150 _ _ hF)
               cases t164 with
               |true=>
                replace hF:=zae hF
                refine oA 166 (.bool t153) ?_;refine oA 167 (.bool t153) ?_;exact lW _ (J147 _ _ hF)
               |false=>
                replace hF:=zaf hF
                refine WL.o (some 166) ?_;refine oA 167 (.bool false) ?_;exact lW _ (J147 _ _ hF)
              cases t139 with
              |true=>
               replace hF:=zae hF
               refine oA 163 (.bool t146) ?_;refine oA 164 (.bool t146) ?_;exact lW _ (J144 _ _ hF)
              |false=>
               replace hF:=zaf hF
               refine WL.o (some 163) ?_;refine oA 164 (.bool false) ?_;exact lW _ (J144 _ _ hF)
            cases t117 with
            |true=>
             replace hF:=zae hF
             refine WL.o (some 119) ?_;refine WL.o (some 120) ?_;refine WL.o (some 121) ?_;refine WL.o (some 122) ?_;refine WL.o (some 123) ?_;refine oA 124 (.bool true) ?_;exact lW _ (J97 _ _ hF)
            |false=>
             replace hF:=zaf hF
             refine oA 119 r110 ?_;refine oCs hc 120 hF fun t120 h_183 hF=>?_;refine oA 121 v60 ?_;refine oCs hc 122 hF fun t122 h_186 hF=>?_;refine oB 123 hF fun t123 hF=>?_;refine oA 124 (.bool t123) ?_;exact lW _ (J97 _ _ hF)
           cases t112 with
           |true=>
            replace hF:=zae hF
            refine WL.o (some 114) ?_;refine WL.o (some 115) ?_;refine WL.o (some 116) ?_;refine oA 117 (.bool true) ?_;exact lW _ (J94 _ _ hF)
           |false=>
            replace hF:=zaf hF
            refine oA 114 r110 ?_;refine oA 115 v60 ?_
            replace hF:=z27 hF;obtain⟨v116,h_190,e191,hF⟩:=hF
            replace hF:=z4 hF;obtain⟨t116,c192,hF⟩:=hF
            have c192:=z34 c192;subst c192;refine WL.b (some 116) (.bool t116) h_190 e191 ?_;refine oA 117 (.bool t116) ?_;exact lW _ (J94 _ _ hF)
         cases t81 with
         |true=>
          replace hF:=zae hF
          refine WL.o (some 83) ?_;refine WL.o (some 84) ?_;refine WL.o (some 85) ?_;refine WL.o (some 86) ?_;refine WL.o (some 87) ?_;refine WL.o (some 88) ?_;refine WL.o (some 89) ?_;refine WL.o (some 90) ?_;refine WL.o (some 91) ?_;refine oA 92 (.bool true) ?_;exact lW _ (J68 _ _ hF)
         |false=>
          replace hF:=zaf hF
          refine oA 83 (z19 t1) ?_;refine oA 84 (.int .i64 (z15b t1)) ?_;refine oA 85 (z19 t2) ?_;refine oA 86 (.int .i64 (z15b t2)) ?_;refine oI 87 .i64 hF fun t87 hF=>?_;refine oA 88 (z19 t3) ?_;refine oA 89 (.int .i64 (z15b t3)) ?_;refine oI 90 .i64 hF fun t90 hF=>?_;refine oB 91 hF fun t91 hF=>?_;refine oA 92 (.bool t91) ?_;exact lW _ (J68 _ _ hF)
        cases t77 with
        |true=>
         replace hF:=zae hF
         refine WL.o (some 79) ?_;refine WL.o (some 80) ?_;refine oA 81 (.bool true) ?_;exact lW _ (J65 _ _ hF)
        |false=>
         replace hF:=zaf hF
         refine oA 79 (.int .i64 t71) ?_;refine oB 80 hF fun t80 hF=>?_;refine oA 81 (.bool t80) ?_;exact lW _ (J65 _ _ hF)
       cases t73 with
       |true=>
        replace hF:=zae hF
        refine WL.o (some 75) ?_;refine WL.o (some 76) ?_;refine oA 77 (.bool true) ?_;exact lW _ (J62 _ _ hF)
       |false=>
        replace hF:=zaf hF
        refine oA 75 (.int .i64 t66) ?_;refine oB 76 hF fun t76 hF=>?_;refine oA 77 (.bool t76) ?_;exact lW _ (J62 _ _ hF)
     cases t51 with
     |true=>
      replace hF:=zae hF
      refine WL.o (some 53) ?_;refine WL.o (some 54) ?_;refine WL.o (some 55) ?_;refine oA 56 (.bool true) ?_;exact lW _ (J37 _ _ hF)
     |false=>
      replace hF:=zaf hF
      refine oA 53 AV.nilp ?_;refine oC hc (some 54) hF fun r54 h_198 hF=>?_
      replace hF:=z27 hF;obtain⟨v55,h_200,e201,hF⟩:=hF
      replace hF:=z4 hF;obtain⟨t55,c202,hF⟩:=hF
      have c202:=z34 c202;subst c202;refine WL.b (some 55) (.bool t55) h_200 e201 ?_;refine oA 56 (.bool t55) ?_;exact lW _ (J37 _ _ hF)
    cases t46 with
    |true=>
     replace hF:=zae hF
     refine WL.o (some 48) ?_;refine WL.o (some 49) ?_;refine WL.o (some 50) ?_;refine oA 51 (.bool true) ?_;exact lW _ (J34 _ _ hF)
    |false=>
     replace hF:=zaf hF
     refine oA 48 AV.nilp ?_;refine oCs hc 49 hF fun t49 h_203 hF=>?_;refine oB 50 hF fun t50 hF=>?_;refine oA 51 (.bool t50) ?_;exact lW _ (J34 _ _ hF)
   cases t43 with
   |true=>
    replace hF:=zae hF
    refine WL.o (some 45) ?_;refine oA 46 (.bool true) ?_;exact lW _ (J31 _ _ hF)
   |false=>
    replace hF:=zaf hF
    refine oA 45 (.bool t36) ?_;refine oA 46 (.bool t36) ?_;exact lW _ (J31 _ _ hF)
  cases t38 with
  |true=>
   replace hF:=zae hF
   refine WL.o (some 40) ?_;refine WL.o (some 41) ?_;refine WL.o (some 42) ?_;refine oA 43 (.bool true) ?_;exact lW _ (J28 _ _ hF)
  |false=>
   replace hF:=zaf hF
   refine oR 40 26 hF fun t40 hF=>?_;refine oA 41 (.agg ([.int .i64 0,.int .i64 0,.int .i64 0]:List AV)) ?_;obtain⟨t42,e208,hF⟩:=z4 hF;obtain⟨t42_209,e210,hF⟩:=zc hF;refine WL.val (d:=(some 42)) (v:=.bool t42_209) (h':=h_21) (by kernel_rfl) (by kernel_rfl) (z107 AV.bool e210 (Eq.trans (by kernel_rfl) (z2cb (P:=Tryd.prog) (h:=h_21) (t:=26) (lit:=false) (by kernel_rfl) e208))) ?_;refine oA 43 (.bool t42_209) ?_;exact lW _ (J28 _ _ hF)
set_option maxRecDepth 100000 in
theorem z4a9(h:AHeap):zc1 Tryd.prog h .neq 24 true (some AV.nilp) (some AV.nilp)=some (.val (.bool false),h):=by kernel_rfl
theorem eqHit0:zab Tryd.prog z36d (.agg [.int .i64 0,.int .i64 0,.int .i64 0]) (.agg [.int .i64 0,.int .i64 0,.int .i64 0])=some true:=by
 rw[eqHit];rfl
set_option maxRecDepth 100000 in
set_option maxHeartbeats 1000000 in
theorem z298(h:AHeap)(hX:h.ex=[49])(hT:HasTz h)(xs:List AV)(hP:z40a Tryd.prog h.next h 12 [22,9,9,9] xs):∃h',Says Tryd.prog 3 xs h (.ret (.bool true)) h':=by
 obtain⟨x0,_,rfl,hp0,hP⟩:=z254 hP;obtain⟨_,_,rfl,hp1,hP⟩:=z254 hP;obtain⟨_,_,rfl,hp2,hP⟩:=z254 hP;obtain⟨_,_,rfl,hp3,hP⟩:=z254 hP
 obtain rfl:=args0 hP
 obtain⟨ps,kp,hps⟩:=args_pats hp0;obtain⟨a,rfl,hsa⟩:=hp1.str Tryd.underlying9;obtain⟨b,rfl,hsb⟩:=hp2.str Tryd.underlying9;obtain⟨c,rfl,hsc⟩:=hp3.str Tryd.underlying9;obtain⟨n,hn⟩:∃n,18446744073709551620<n:=⟨_,Nat.lt_succ_self _⟩;obtain⟨D,hD⟩:∃D,2000≤D:=⟨2000,Nat.le_refl _⟩
 suffices hK:Wp (zee (world n (D+7)) n x0 a b c h) fun r _=>r=.ret (.bool true) by
  obtain⟨_,h',e,rfl⟩:=hK;exact⟨h',z1fd (world_ok n (D+7)) e⟩
 have reach:reachBytes≤1152921504606846976:=by decide
 have la:=z6a a;have lb:=z6a b;have lc:=z6a c;unfold zee;refine Wp.callN (works_w (d:=D+6) hn (by omega) hT hX) (Wp.obind (z6 _) ?_)
 ((with_reducible refine Wp.lett ?_))
 refine y7 rfl ?_;obtain⟨h1,e1,t1⟩:=feed_nil (n:=n) (d:=D+6) (h:=h) (s:=a);refine Wp.callN e1 (Wp.obind (zd9 _ _) (Wp.obind (z5 _ _) (Wp.obind (zd8 _ _ _) (Wp.obind (z13 _) (Wp.obind (extT_2 _ _ _ _) (Wp.obind (z6 _) ?_))))));refine y9 (Mem.nil [] h1) fun h2 M2=>?_;rw[z10];refine y11 M2 rfl rfl rfl fun h4 M4=>?_;have t04:=t1.trans M4.tch;have l4:z18 h4 3 (.ptr h1.next 0)=some [.int .i64 0,.int .i64 0,.int .i64 0]:=RowH.ldAll M4.at0.1 rfl;have es0:(!eqS ([]:z11) [])=false:=by rw[z2a4.2 rfl];rfl
 repeat(first|(with_reducible first|refine yc (fun _ _=>?_)|refine Wp.lett ?_|(apply Wp.obind;first|exact l4|exact eqHit0|exact z6 _|exact z47 _))|((with_reducible refine y7 ?_ ?_);first|(with_reducible first|rfl|assumption|exact Bool.not_true)|((with_reducible apply z16e);omega))|(with_reducible first|(apply Wp.callN;first|exact z472|exact copyM_nil)|(apply Wp.outK;exact z4a9 _)|refine ye (by assumption) ?_))
 have hX4:h4.ex=[49]:=by rw[t04.2.1,hX]
 have hT4:=hT.tch t04 (by simp);have kp4:=y47 kp t04 (Nat.le_refl _)
 by_cases hM:∃ts,May n (D+4) ps ts
 ·obtain ⟨ts, hM⟩ := hM
  obtain⟨h5,mb1,ab1,S1,nbs1,e5,m1,t5,g1,g1b,_,_⟩:=z420 (by omega) hM hX4 kp4;have kp5:=y47 kp4 t5 (Nat.le_refl _);have K0:Sys h4 [] []:=⟨(fun _ h=>nomatch h),.nil,(fun _ h=>nomatch h),hT4,hX4⟩;have K1:=K0.add (y:=⟨mb1,ab1,S1,nbs1,z126 ts⟩) t5 m1 g1 (fun _ _ _ h=>nomatch h);obtain⟨h6,mb2,ab2,S2,nbs2,e6,m2,t6,g2,g2b,_,_⟩:=z420 (by omega) hM K1.ex kp5;have kp6:=y47 kp5 t6 (Nat.le_refl _)
  have K2:=K1.add (y:=⟨mb2,ab2,S2,nbs2,z126 ts⟩) t6 m2 g2 (fun b hb x hx hm=>by
   have:=(K1.mats x hx).lt b hm;have:=g2b b hb;omega)
  obtain⟨h7,mb3,ab3,S3,nbs3,e7,m3,t7,g3,g3b,_,_⟩:=z420 (by omega) hM K2.ex kp6
  have K3:Sys h7 [⟨mb1,ab1,S1,nbs1,z126 ts⟩,⟨mb2,ab2,S2,nbs2,z126 ts⟩,⟨mb3,ab3,S3,nbs3,z126 ts⟩] []:=K2.add (y:=⟨mb3,ab3,S3,nbs3,z126 ts⟩) t7 m3 g3 (fun b hb x hx hm=>by
   have:=(K2.mats x hx).lt b hm;have:=g3b b hb;omega)
  have hts:=hM.2.2.len;have h1:=hM.1
  have hml:nbs1.length=ts.length:=by
   have:=m1.len;rw[this];exact List.length_map _
  clear m1 m2 m3 g1 g1b g2 g2b g3 g3b K0 K1 K2 kp4 kp5 kp6 t5 t6 t7 M2 M4 l4
  repeat(first|(with_reducible refine yc (fun _ _=>?_))|((with_reducible refine yf ?_ ?_ ?_);omega;omega)|(with_reducible first|refine Wp.lett ?_|(apply Wp.obind;first|exact z5 _ _|exact zd9 _ _|exact zd8 _ _ _))|((with_reducible refine y7 ?_ ?_);((with_reducible first|apply decide_eq_false|apply z16e);omega))|(with_reducible first|(apply Wp.callN;first|exact e5|exact e6|exact e7)|refine ye (by assumption) ?_))
  by_cases hbig:600<a.length+b.length+c.length
  ·refine y8 (decide_eq_true (by omega)) ?_
   repeat(with_reducible first|refine yc (fun _ _=>?_)|refine Wp.lett ?_)
   refine y8 rfl ?_
   repeat(with_reducible first|refine Wp.lett ?_|refine ye (by assumption) ?_)
   exact Wp.ret rfl
  refine y7 (decide_eq_false (by omega)) ?_;have f0:(z126 ts).2.2+(z126 ts).2.1.length=0:=rfl;have bA:=z415 a (z126 ts) 0 (Nat.zero_le _);obtain⟨⟨FA,MA⟩,hA⟩:∃r,z199 (z126 ts) a 0=r:=⟨_,rfl⟩;obtain⟨⟨FB,MB⟩,hB⟩:∃r,z199 MA b 0=r:=⟨_,rfl⟩;obtain⟨⟨FC,MC⟩,hC⟩:∃r,z199 MA c 0=r:=⟨_,rfl⟩;rw[hA] at bA
  have hbA:MA.2.2+MA.2.1.length≤a.length:=by
   have:MA.2.2+MA.2.1.length≤(z126 ts).2.2+(z126 ts).2.1.length+a.length:=bA.2;omega
  have hFb:FB.length<1000000:=by
   have:=z33f b MA 0;rw[hB] at this;have:FB.length≤b.length:=this;omega
  have hFc:FC.length<1000000:=by
   have:=z33f c MA 0;rw[hC] at this;have:FC.length≤c.length:=this;omega
  refine z210 (d:=D) [] [_,_] (by omega) hA K3 (by omega) fun h8 S1' v1 K4=>?_;clear K3;have x1:=K4.mats ⟨mb1,ab1,S1',nbs1,MA⟩ (by simp)
  have hne:MA.1≠[]:=fun e=>by
   have:=x1.len;have h2:nbs1.length=MA.1.length:=this;rw[e,List.length_nil] at h2;omega
  obtain⟨h9,mb4,ab4,S4,e9,m4,t9,g4⟩:=copy_r (n:=n) (d:=D+4) (by omega) x1 K4.ex (show MA.2.2+MA.2.1.length<900000 by omega) hne
  have hmm:mb4≠mb1:=fun e=>by
   have:=g4 _ m4.mem;have h2:mb1<h8.next:=x1.lt _ x1.mem;omega
  have ap:=K4.ap
  have K5:Sys h9 [⟨mb1,ab1,S1',nbs1,MA⟩,⟨mb2,ab2,S2,nbs2,z126 ts⟩,⟨mb3,ab3,S3,nbs3,z126 ts⟩,⟨mb4,ab4,S4,nbs1,MA⟩] _:=K4.add (y:=⟨mb4,ab4,S4,nbs1,MA⟩) t9 m4 g4 (fun b hb x hx=>by
   rcases List.mem_cons.1 hx with rfl|hx
   ·exact x1.net b hb
   ·exact((List.pairwise_cons.1 ap).1 x hx).2.1 b hb)
  clear ap x1 K4;refine Wp.callN e9 ?_;have y1:=K5.mats ⟨mb1,ab1,S1',nbs1,MA⟩ (by simp);have y4:=K5.mats ⟨mb4,ab4,S4,nbs1,MA⟩ (by simp)
  have apm:z202 Tryd.prog h9 .eql 24 false (some (.ptr mb4 0)) (some (.ptr mb1 0))=some (.val (.bool false),h9):=by
   obtain⟨_,_,r4⟩:=y4.rowM;obtain⟨_,_,r1⟩:=y1.rowM;exact apartMat r4 r1 hmm (by rw[K5.ex];rfl)
  have b1:=z1ef (n:=n) (d:=D+6) y1;have b4:=z1ef (n:=n) (d:=D+6) y4;have esA:(!eqS MA.2.1 MA.2.1)=false:=by rw[z2a4.2 rfl];rfl
  repeat(with_reducible first|refine yc (fun _ _=>?_)|refine Wp.lett ?_|(apply Wp.obind;first|exact z6 _|exact z47 _)|(refine y7 ?_ ?_;first|rfl|assumption)|(apply Wp.callN;first|exact b1|exact b4)|(apply Wp.outK;first|exact eqMat _ _ _|exact apm)|refine ye (by assumption) ?_)
  clear b1 b4 apm y1 y4 esA;refine z210 (d:=D) [_] [_,_] (by omega) hA K5 (by omega) fun h10 S2' v2 K6=>?_;refine z210 (d:=D) [_,_] [_] (by omega) hA K6 (by omega) fun h11 S3' v3 K7=>?_;clear K5 K6;refine z210 (d:=D) [] [_,_,_] (by omega) hB K7 (by omega) fun h12 S5 v5 K8=>?_;refine Wp.obind (zd9 _ _) (Wp.obind (zd8 _ _ _) (Wp.obind (z6 _) ?_));refine z210 (d:=D) [_,_,_] [] (by omega) hC K8 (by omega) fun h13 S6 v6 K9=>?_;refine Wp.obind (zd9 _ _) (Wp.obind (zd8 _ _ _) (Wp.obind (z6 _) ?_));refine z210 (d:=D) [_] [_,_] (by omega) hB K9 (by omega) fun h14 S7 v7 K10=>?_;refine Wp.obind (zd9 _ _) (Wp.obind (zd8 _ _ _) (Wp.obind (z6 _) ?_));refine z210 (d:=D) [_,_] [_] (by omega) hC K10 (by omega) fun h15 S8 v8 K11=>?_;refine Wp.obind (zd9 _ _) (Wp.obind (zd8 _ _ _) (Wp.obind (z6 _) ?_));clear K7 K8 K9 K10;have o5:=(K11.outs (v5,FB) (by simp)).1;have o6:=(K11.outs (v6,FC) (by simp)).1;have o7:=(K11.outs (v7,FB) (by simp)).1;have o8:=(K11.outs (v8,FC) (by simp)).1;have s1:=same_w (n:=n) (d:=D+6) (by omega) o5 o7 hFb;have s2:=same_w (n:=n) (d:=D+6) (by omega) o6 o8 hFc;have b1:=z1ef (n:=n) (d:=D+6) (K11.mats ⟨mb1,ab1,S5,nbs1,MB⟩ (by simp));have b2:=z1ef (n:=n) (d:=D+6) (K11.mats ⟨mb2,ab2,S7,nbs2,MB⟩ (by simp));have b3:=z1ef (n:=n) (d:=D+6) (K11.mats ⟨mb3,ab3,S8,nbs3,MC⟩ (by simp));have b4:=z1ef (n:=n) (d:=D+6) (K11.mats ⟨mb4,ab4,S6,nbs1,MC⟩ (by simp));have es1:eqS MB.2.1 MB.2.1=true:=z2a4.2 rfl;have es2:eqS MC.2.1 MC.2.1=true:=z2a4.2 rfl;clear K11 o5 o6 o7 o8
  repeat(with_reducible first|refine yc (fun _ _=>?_)|refine Wp.lett ?_|(apply Wp.obind;first|exact z6 _|exact z47 _)|(refine y8 ?_ ?_;first|rfl|assumption)|(apply Wp.callN;first|exact s1|exact s2|exact b1|exact b2|exact b3|exact b4)|refine ye (by assumption) ?_)
  refine Wp.ret ?_;show ARes.ret (.bool (eqS MC.2.1 MC.2.1))=_;rw[es2]
 ·obtain ⟨h5, e5, t5⟩ := z3e2 hn (by omega) hM hX4 kp4 hps
  have kp5:=y47 kp4 t5 (Nat.le_refl _);have hX5:h5.ex=[49]:=by rw[t5.2.1,hX4]
  obtain⟨h6,e6,t6⟩:=z3e2 hn (by omega) hM hX5 kp5 hps;have kp6:=y47 kp5 t6 (Nat.le_refl _);obtain⟨h7,e7,t7⟩:=z3e2 hn (by omega) hM (by rw[t6.2.1,hX5]) kp6 hps
  repeat(first|(with_reducible first|refine yc (fun _ _=>?_)|refine Wp.lett ?_|(apply Wp.obind;first|exact z5 _ _|exact zd9 _ _|exact zd8 _ _ _))|((with_reducible refine y8 ?_ ?_);first|(with_reducible rfl)|((with_reducible apply z184);omega))|(with_reducible first|(apply Wp.callN;first|exact e5|exact e6|exact e7)|refine ye (by assumption) ?_))
  refine y8 rfl ?_
  repeat(with_reducible first|refine Wp.lett ?_|refine ye (by assumption) ?_)
  exact Wp.ret rfl
end Go.Proofs.YtpdepoeanhibiaaDoor
