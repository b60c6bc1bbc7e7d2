/- What matchWindow_proved stands on, part 9 of 10. -/
import Derived.Test.YtcahhjjnihipdaaDoorCw8
namespace Go.Proofs.YtcahhjjnihipdaaDoor
open Go.RowKit Abs
abbrev TBy:Nat:=76
theorem bldSlBy(h:AHeap)(v:Int):z169 Tryd.prog h TBy 1 [(0,.int .u8 v)]=zcb h 5 [.int .u8 v] 1 1:=by kernel_rfl
theorem fitBy:fitB Tryd.prog 5 1=true:=by kernel_rfl
def BufAt(h:AHeap)(v:AV)(u:Bytes):Prop:=(v=.nsl∧u=[])∨∃c rest,v=.sl c 0 u.length 1∧RowH h c 5 (z65 u++rest)∧c<h.next
section
variable {h h':AHeap}{v:AV}{u:Bytes}{b1 c0:Nat}
theorem BufAt.tch{S:List Nat}(k:BufAt h v u)(t:Tch S h h')(hd:∀b∈zd6 v,b ∉ S):BufAt h' v u:=by
 rcases k with k|⟨c,rest,rfl,h2,h3⟩
 ·exact .inl k
 ·exact .inr ⟨c,rest,rfl,h2.tch t h3 (hd c (List.mem_singleton.2 rfl)),Nat.lt_of_lt_of_le h3 t.1⟩
theorem BufAt.lt(k:BufAt h v u):∀b∈zd6 v,b<h.next:=by
 rcases k with⟨rfl,_⟩|⟨c,rest,rfl,_,h3⟩
 ·exact fun b hb=>nomatch hb
 ·intro b hb
  rw[List.mem_singleton.1 hb];exact h3
theorem BufAt.len(k:BufAt h v u):z187 v=some (u.length:Int):=by
 rcases k with⟨rfl,rfl⟩|⟨c,rest,rfl,_⟩<;>rfl
theorem BufAt.push(k:BufAt h v u)(kr:RowH h b1 5 [.int .u8 (c0:Int)])(hc0:c0<256)(hm:u.length<1000000)(hx:h.ex=[]):
  ∃h',z80 Tryd.prog h TBy TBy v (.sl b1 0 1 1)=some (.val (.sl h.next 0 (u.length+1) 1),h')∧BufAt h' (.sl h.next 0 (u.length+1) 1) (u++[UInt8.ofNat c0])∧h.next<h'.next∧Tch (zd6 v) h h':=by
 have he:Abs.elemOf Tryd.prog TBy=some 5:=by kernel_rfl
 have hu:z267 Tryd.prog TBy=true:=by kernel_rfl
 have hsz:Tryd.prog.cellsOf 5=1:=by kernel_rfl
 have hex:zbd 5 h.ex=false:=by rw[hx];rfl
 have eb:z65 (u++[UInt8.ofNat c0])=z65 u++[.int .u8 (c0:Int)]:=by
  rw[z235];show z65 u++[AV.int .u8 ((UInt8.ofNat c0).toNat:Int)]=_;rw[UInt8.toNat_ofNat_of_lt' hc0]
 have el:u.length+1=(u++[UInt8.ofNat c0]).length:=by rw[List.length_append,List.length_singleton]
 rcases k with⟨rfl,rfl⟩|⟨c,rest,rfl,h2,h3⟩
 ·have a1 := z25f (P := Tryd.prog) (h := h) (t := TBy) (u := TBy) (n := 0) (x := .sl b1 0 1 1) he hu hsz rfl (z1c1 kr rfl) (z11d fitBy (by omega) (by omega)) rfl hex
  refine⟨_,a1,.inr ⟨h.next,[],by rw[el],?_,Nat.lt_succ_self _⟩,Nat.lt_succ_self _,Tch.newH _ _ _ _⟩;rw[eb,List.append_nil];exact RowH.new _ _ _
 ·have hcl := zb1 u
  have a1:=z207 (P:=Tryd.prog) (h:=h) (t:=TBy) (u:=TBy) (b:=c) (o:=0) (m:=u.length) (n:=0) (x:=.sl b1 0 1 1) (cs:=z65 u) he hu hsz rfl (z1c1 kr rfl) (z11d fitBy (by omega) (by omega)) rfl hex (by
   have:=h2.part (o:=0) (n:=(z65 u).length) (by rw[List.length_append];omega);rw[List.drop_zero,List.take_left' rfl] at this;rw[Nat.mul_one, ←hcl];exact this) h2.type
  refine⟨_,a1,.inr ⟨h.next,[],by rw[el],?_,Nat.lt_succ_self _⟩,Nat.lt_succ_self _,?_⟩
  ·rw [eb, List.append_nil]
   exact RowH.new (h.put c .dead) _ _
  ·exact(Tch.put (S:=[c]) (.inl (List.mem_singleton.2 rfl)) _).trans (Tch.newH _ _ _ _)
end
theorem z3ad{t e:TypeId}{h:AHeap}{c m sz j:Nat}{l:List AV}(he:Abs.elemOf Tryd.prog t=some e)(hi:(Tryd.prog.info? e).isSome=true)(hsz:Tryd.prog.cellsOf e=sz)(k:RowH h c e l)(hm:m*sz≤l.length)(hj:j≤m)(hone:((l.drop (j*sz)).take ((m - j)*sz)).all AV.one=true):
  ∃h',z21e Tryd.prog h t (.sl c 0 m sz) (.sl c (0+j*sz) (m - j) sz)=some (.val (.int .i64 ((m - j:Nat):Int)),h')∧RowH h' c e (laid l 0 ((l.drop (j*sz)).take ((m - j)*sz)))∧h'.next=h.next∧Tch [c] h h':=by
 have hlen:((l.drop (j*sz)).take ((m - j)*sz)).length=(m - j)*sz:=by
  rw[List.length_take,List.length_drop];have:(m - j)*sz=m*sz - j*sz:=Nat.sub_mul _ _ _;clear he hi hsz;omega
 have hle:(m - j)*sz≤m*sz:=Nat.mul_le_mul_right _ (Nat.sub_le _ _)
 obtain⟨h',e1,e2,e3,e4,e5⟩:=k.put (vs:=(l.drop (j*sz)).take ((m - j)*sz)) (o:=0) (by
  rw[hlen,Nat.zero_add];exact Nat.le_trans hle hm) hone
 refine⟨h',?_,e2,e3,z2fc e3 e4 e5 (.inl (List.mem_singleton.2 rfl))⟩
 have hp:=k.part (o:=0+j*sz) (n:=(m - j)*sz) (by
  have:(m - j)*sz+j*sz=m*sz:=by rw[←Nat.add_mul,Nat.sub_add_cancel hj]
  clear he hi hsz;omega)
 rw[Nat.zero_add] at hp;have hmin:Nat.min (m - j) m=m - j:=Nat.min_eq_left (Nat.sub_le _ _);unfold z21e;rw[he,show z2db (.sl c 0 m sz)=some m from rfl,show z2db (.sl c (0+j*sz) (m - j) sz)=some (m - j) from rfl];dsimp only;rw[hsz,hmin,z22d (Nat.le_refl _),Nat.zero_add,hp];dsimp only;rw[if_pos ⟨rfl,hi⟩,e1]
theorem copy_none{t e:TypeId}{h:AHeap}{c m sz:Nat}{l:List AV}(he:Abs.elemOf Tryd.prog t=some e)(hi:(Tryd.prog.info? e).isSome=true)(hsz:Tryd.prog.cellsOf e=sz)(k:RowH h c e l):
  ∃h',z21e Tryd.prog h t (.sl c 0 m sz) .esl=some (.val (.int .i64 ((0:Nat):Int)),h')∧RowH h' c e (laid l 0 [])∧h'.next=h.next∧Tch [c] h h':=by
 obtain⟨h',e1,e2,e3,e4,e5⟩:=k.put (vs:=[]) (o:=0) (by simp) rfl;refine⟨h',?_,e2,e3,z2fc e3 e4 e5 (.inl (List.mem_singleton.2 rfl))⟩;have hmin:Nat.min 0 m=0:=Nat.zero_min _;unfold z21e;rw[he,show z2db (.sl c 0 m sz)=some m from rfl,show z2db .esl=some 0 from rfl];dsimp only;rw[hmin,show z1e6 h (Tryd.prog.cellsOf e) 0 .esl=some [] from rfl];dsimp only;rw[if_pos ⟨hsz.symm,hi⟩,e1]
theorem z367:∀l:List z199,(z9a l).all AV.one=true
 |[]=>rfl
 |x::l=>by
  rw[z9a,List.all_append,z367 l];rfl
theorem z2f8:∀(l:List z199) (j:Nat),(z9a l).drop (2*j)=z9a (l.drop j)
 |l,0=>rfl
 |[],j+1=>by
  rw[List.drop_nil];exact List.drop_nil
 |x::l,j+1=>by
  rw[z9a,List.drop_succ_cons, ←z2f8 l j,show 2*(j+1)=(z2f9 x).length+2*j from Nat.add_comm _ _,List.drop_append,List.drop_of_length_le (Nat.le_add_right _ _),Nat.add_sub_cancel_left];rfl
theorem z43d{l:List z199}{rest:List AV}{i:Nat}(hi:i<l.length):(z9a l++rest)[0+i*2+1]? =some (.int .i64 ((l[i]).2.2:Int)):=by
 have e:z9a l=z9a (l.take i)++(z2f9 l[i]++z9a (l.drop (i+1))):=by
  have:=z16c (l.take i) (l.drop i);rw[List.take_append_drop] at this;rw[this,List.drop_eq_getElem_cons hi,z9a]
 have hl:(z9a (l.take i)).length=2*i:=by rw[z9d,List.length_take];omega
 rw[e,List.append_assoc,List.getElem?_append_right (by omega),show 0+i*2+1 - (z9a (l.take i)).length=1 by omega];rfl
def z232(f:Nat)(l:List z199):List z199:=l.dropWhile fun x=>decide (x.2.2<f)
theorem z356(f:Nat):∀l:List z199,∃j,j≤l.length∧z232 f l=l.drop j
 |[]=>⟨0,Nat.le_refl _,rfl⟩
 |x::l=>by
  unfold z232;rw[List.dropWhile_cons]
  split
  ·obtain ⟨j, h1, h2⟩ := z356 f l
   exact⟨j+1,by rw[List.length_cons];omega,by rw[List.drop_succ_cons];exact h2⟩
  ·exact⟨0,Nat.zero_le _,rfl⟩
section
variable {N:Nt}{n d nb ab o f:Nat}{h:AHeap}{cells:List AV}{v:AV}{l:List z199}{Q:ARes→AHeap→Prop}{k4:Int→AHeap→R}
theorem z2c4{c:Nat}{rest:List AV}(ka:RowH h ab z3bd cells)(hv:cells[o+1]? =some (.sl c 0 l.length 2))(kc:RowH h c z208 (z9a l++rest))(hl:l.length<1000000)(hx:∀x∈l,x.2.2<1000000000000):
  ∀(todo:List z199) (i fu:Nat),l.drop i=todo→i≤l.length→todo.length<fu→(∀j,j≤l.length→z232 f todo=l.drop j→Wp (k4 (j:Int) h) Q)→Wp (z8d (.ptr ab o) (f:Int) k4 fu (i:Int) h) Q
 |_,_,0,_,_,hf,_=>by omega
 |[],i,fu+1,hd,hi,hf,hk=>by
  have hli:=drop_nil hd;rw[zd1];unfold z7d;have cv:=y5 ka hv;have e1:z187 (.sl c 0 l.length 2)=some (l.length:Int):=rfl
  repeat(first|(with_reducible first|refine y8 (fun _ _=>?_)|refine Wp.lett ?_|(apply Wp.obind;first|exact z10 _ _|exact cv|exact e1|exact z8 _ _ _))|((with_reducible refine y6 ?_ ?_);first|(with_reducible rfl)|((with_reducible apply decide_eq_false);omega))|(with_reducible refine yd (by assumption) ?_))
  exact hk i hi (by rw[hd];rfl)
 |x::todo,i,fu+1,hd,hi,hf,hk=>by
  obtain⟨hli,hxi,hd2⟩:=z175 hd;rw[List.length_cons] at hf;have cv:=y5 ka hv;have e1:z187 (.sl c 0 l.length 2)=some (l.length:Int):=rfl;have e2:=z257 (b:=c) hli;have e3:=y5 kc (z43d (rest:=rest) hli);have hxb:=hx _ (List.getElem_mem hli);rw[hxi] at e3 hxb;have el:(i:Int)+1=((i+1:Nat):Int):=by omega
  rw[zd1];unfold z7d
  by_cases hlt:x.2.2<f
  ·repeat (first | (with_reducible refine y8 (fun _ _ => ?_)) | ((with_reducible refine ye ?_ ?_ ?_); omega; omega) | (with_reducible first | refine Wp.lett ?_ | (apply Wp.obind; first | exact z10 _ _ | exact cv | exact e1 | exact e2 | exact e3 | exact z4 _ _ | exact z8 _ _ _)) | ((with_reducible refine y9 ?_ ?_; apply decide_eq_true); omega) | (with_reducible refine yd (by assumption) ?_))
   rw[el];refine z2c4 ka hv kc hl hx todo (i+1) fu hd2 (by omega) (by omega) fun j hj e=>hk j hj ?_;rw[←e];unfold z232;rw[List.dropWhile_cons,if_pos (decide_eq_true hlt)]
  ·repeat (first | (with_reducible first | refine y8 (fun _ _ => ?_) | refine Wp.lett ?_ | (apply Wp.obind; first | exact z10 _ _ | exact cv | exact e1 | exact e2 | exact e3 | exact z4 _ _ | exact z8 _ _ _)) | ((with_reducible refine y9 ?_ ?_; apply decide_eq_true); omega) | ((with_reducible refine y6 ?_ ?_; apply decide_eq_false); omega) | (with_reducible refine yd (by assumption) ?_))
   refine hk i hi ?_;rw[hd];unfold z232;rw[List.dropWhile_cons,if_neg (by rw[decide_eq_true_eq];exact hlt)]
theorem forget_r(k:ArmAt h ab o nb N cells v l)(hvn:zd6 v≠[])(hne:ab≠nb)(hl:l.length<1000000)(hx:∀x∈l,x.2.2<1000000000000)(hn:1000000<n):
  ∃v' h',world n (d+2) 52 [.ptr ab o,.int .i64 (f:Int)] h=some (.ret (.tup []),h')∧ArmAt h' ab o nb N (cells.set (o+1) v') v' (z232 f l)∧zd6 v'=zd6 v∧h'.next=h.next∧Tch (ab::zd6 v) h h':=by
 obtain⟨k1,k2,k3,kv,k5,k6,k7,k8,k9,k10,k11,k12,k13,k14⟩:=id k
 have hlen:o+1<cells.length:=by
  apply Nat.lt_of_not_le;intro hh;rw[List.getElem?_eq_none hh] at kv
  cases kv
 suffices hK:Wp (world n (d+2) 52 [.ptr ab o,.int .i64 (f:Int)] h) fun r h'=>∃v',r=.ret (.tup [])∧ArmAt h' ab o nb N (cells.set (o+1) v') v' (z232 f l)∧zd6 v'=zd6 v∧h'.next=h.next∧Tch (ab::zd6 v) h h' by
  obtain⟨_,h',e,v',rfl,k⟩:=hK;exact⟨v',h',e,k⟩
 rw[z20c];unfold z93;refine y1a fun k4 ek=>?_
 rcases k5 with⟨rfl,_⟩|⟨c,rest,rfl,hA,kc,hc⟩
 ·exact absurd rfl hvn
 have he:Abs.elemOf Tryd.prog z1a7=some z208:=by kernel_rfl
 have hi:(Tryd.prog.info? z208).isSome=true:=by kernel_rfl
 have hsz:Tryd.prog.cellsOf z208=2:=by kernel_rfl
 have hac:ab≠c:=fun e=>k11 (e▸List.mem_singleton.2 rfl);have cv:=y5 k1 kv;refine z2c4 k1 kv kc hl hx l 0 n rfl (Nat.zero_le _) (by omega) fun j hj ej=>?_;rw[ek,ej];have hwl:=z9d l
 -- the copy, whatever the rest is
 have fin:∀{h2:AHeap} {l2:List AV},RowH h2 c z208 l2→l2.take (2*(l.length - j))=z9a (l.drop j)→2*l.length≤l2.length→h2.next=h.next→Tch [c] h h2→Wp (callN (world n (d+1) 53 [.ptr ab o,.int .i64 ((l.length - j:Nat):Int)] h2) fun _ h_17=>some (.ret (.tup []),h_17)) fun r h'=>∃v',r=.ret (.tup [])∧ArmAt h' ab o nb N (cells.set (o+1) v') v' (l.drop j)∧zd6 v'=zd6 (.sl c 0 l.length 2)∧h'.next=h.next∧Tch (ab::zd6 (.sl c 0 l.length 2)) h h':=by
  intro h2 l2 kc2 e2 hl2 n2 t2;have ka2:=k1.tch t2 k2 (by simpa using hac);have kv2:VAt h2 (.sl c 0 l.length 2) (l2.take (2*l.length)) l.length:=.inr ⟨c,l2.drop (2*l.length),rfl,by rw[List.length_take];omega,by rw[List.take_append_drop];exact kc2,by omega⟩;obtain⟨v',h3,e3,q1,q2,q3,q4,q5⟩:=z25d (n:=n) (d:=d) (live:=l.length - j) ka2 kv (by omega) kv2 (by omega) k11;refine Wp.callN e3 ?_;rw[List.take_take,Nat.min_eq_left (by omega),e2] at q2;have tt:Tch (ab::zd6 (.sl c 0 l.length 2)) h h3:=(t2.mono fun b hb=>.inl (List.mem_cons_of_mem _ hb)).trans q5;have hdl:(l.drop j).length=l.length - j:=List.length_drop
  have hsub:∀b∈(l.drop j).map (·.1),b∈l.map (·.1):=fun b hb=>by
   obtain⟨x,hx,e⟩:=List.mem_map.1 hb;exact List.mem_map.2 ⟨x,List.mem_of_mem_drop hx,e⟩
  have nS:∀b∈l.map (·.1),b ∉ ab::zd6 (.sl c 0 l.length 2):=fun b hb hm=>by
   rcases List.mem_cons.1 hm with hm|hm
   ·exact k12 (hm▸hb)
   ·exact k10 b hm hb
  refine Wp.ret ⟨v',rfl,⟨q1,by omega,?_,List.getElem?_set_self hlen,by rw[hdl];exact q2,?_,?_,by omega,?_,fun b hb hm=>?_,?_,fun hb=>k12 (hsub _ hb),?_,fun hb=>k14 (hsub _ hb)⟩,q3,q4.trans n2,tt⟩
  ·rw [List.getElem?_set_ne (by omega)]
   exact k3
  ·exact RunsAt.tch (fun x hx=>k6 x (List.mem_of_mem_drop hx)) tt fun x hx=>nS _ (hsub _ (List.mem_map_of_mem hx))
  ·refine k7.tch tt k8 fun hm => ?_
   rcases List.mem_cons.1 hm with hm|hm
   ·exact hne hm.symm
   ·exact k13 hm
  ·exact k9.sublist ((List.drop_sublist j l).map _)
  ·rw [q3] at hb
   exact k10 b hb (hsub _ hm)
  ·rw [q3]
   exact k11
  ·rw [q3]
   exact k13
 have e1:((z9a l++rest).drop (j*2)).take ((l.length - j)*2)=z9a (l.drop j):=by
  rw[List.drop_append_of_le_length (by omega),show j*2=2*j from Nat.mul_comm _ _,z2f8];exact List.take_left' (by rw[z9d,List.length_drop];omega)
 by_cases hje:j=l.length∧0<j
 ·obtain ⟨rfl, h0⟩ := hje
  have s1:=z372 (P:=Tryd.prog) (h:=h) (b:=c) (o:=0) (k1:=.i64) he hi hsz h0;obtain⟨h2,c2,q1,q2,q3⟩:=copy_none (m:=l.length) he hi hsz kc;refine Wp.obind (z10 _ _) (Wp.obind (z8 _ _ _) (Wp.obind cv (Wp.obind (z10 _ _) (Wp.obind (z8 _ _ _) (Wp.obind cv (Wp.outK s1 (Wp.outK c2 (Wp.obind (z4 _ _) ?_))))))))
  have:=fin q1 (by
   rw[Nat.sub_self,List.drop_length];rfl) (by
   show _≤(laid _ 0 []).length;rw[z11b (by simp),List.length_append];omega) q2 q3
  rw[Nat.sub_self] at this;exact this
 ·have s1 := z243 (P := Tryd.prog) (h := h) (b := c) (o := 0) (m := l.length) (l1 := j) (k1 := .i64) he hi hsz hj hje
  obtain⟨h2,c2,q1,q2,q3⟩:=z3ad (m:=l.length) (j:=j) he hi hsz kc (by rw[List.length_append];omega) hj (by rw[e1];exact z367 _);refine Wp.obind (z10 _ _) (Wp.obind (z8 _ _ _) (Wp.obind cv (Wp.obind (z10 _ _) (Wp.obind (z8 _ _ _) (Wp.obind cv (Wp.outK s1 (Wp.outK c2 (Wp.obind (z4 _ _) ?_))))))));rw[e1] at q1;have hdl:(z9a (l.drop j)).length=2*(l.length - j):=by rw[z9d,List.length_drop]
  refine fin q1 ?_ ?_ q2 q3
  ·unfold laid
   rw[List.take_zero,List.nil_append];exact List.take_left' hdl
  ·rw [z11b (by rw [List.length_append]; omega), List.length_append]
   omega
end
abbrev TMat:Nat:=78
def z2c5(f:Nat)(a:z2f4):z2f4:=(a.1,a.2.dropWhile fun x=>decide (x.2<f))
def z26d(a:z2f4):z2f4:=(a.1,[])
theorem dropW_W(f:Nat):∀l:List z199,(z232 f l).map (·.2)=(l.map (·.2)).dropWhile fun x=>decide (x.2<f)
 |[]=>rfl
 |x::l=>by
  unfold z232;rw[List.map_cons,List.dropWhile_cons,List.dropWhile_cons]
  by_cases h:x.2.2<f
  ·rw [if_pos (decide_eq_true h), if_pos (decide_eq_true h)]
   exact dropW_W f l
  ·rw[if_neg (by rw[decide_eq_true_eq];exact h),if_neg (by rw[decide_eq_true_eq];exact h),List.map_cons]
def Sub1(H H':AHeap)(ab:Nat)(R R':List ArmT)(F:z2f4→z2f4)(P:List ArmT):Prop:=Tch (ab::z59 (P++R)) H H'∧H'.next=H.next∧ArmsAt H' ab (P++R')∧R'.map z10f=(R.map z10f).map F∧R'.map (·.nb)=R.map (·.nb)∧(∀b∈z59 (P++R'),b∈z59 (P++R))∧(∀B,z2f3 B R→z2f3 B R')∧R'.map (fun a=>zd6 a.v)=R.map (fun a=>zd6 a.v)
section
variable {H H1 H':AHeap}{ab:Nat}{P R R':List ArmT}{a:ArmT}{v':AV}{l':List z199}{F:z2f4→z2f4}
theorem Sub1.nil(k:ArmsAt H ab (P++[])):Sub1 H H ab [] [] F P:=⟨Tch.refl _ _,rfl,k,rfl,rfl,fun _ h=>h,fun _ h=>h,rfl⟩
theorem z3d7(k:ArmsAt H ab (P++a::R))(k1:ArmAt H1 ab (0+P.length*2) a.nb a.N ((z10d (P++a::R)).set (0+P.length*2+1) v') v' l')(hb:zd6 v'=zd6 a.v)(hl:∀x∈l',x∈a.l)(t:Tch (ab::zd6 a.v) H H1):ArmsAt H1 ab (P++{a with v:=v',l:=l'}::R)∧(∀b∈z59 (P++{a with v:=v',l:=l'}::R),b∈z59 (P++a::R))∧Tch (ab::z59 (P++a::R)) H H1:=by
 have hs:∀b∈l'.map (·.1),b∈a.l.map (·.1):=fun b hb=>by
  obtain⟨x,hx,e⟩:=List.mem_map.1 hb;exact List.mem_map.2 ⟨x,hl x hx,e⟩
 refine⟨k.step k1 (fun b h=>.inl (hb▸h)) (fun b h=>.inl (hs b h)) (t.mono fun b hb=>.inl ?_),fun b h=>?_,t.mono fun b hb=>.inl ?_⟩
 ·rcases List.mem_cons.1 hb with hb | hb
  ·rw [hb]
   exact List.mem_cons_self
  ·exact List.mem_cons_of_mem _ (List.mem_append_left _ hb)
 ·obtain ⟨y, hy, h⟩ := z6e.1 h
  rcases List.mem_append.1 hy with hy|hy
  ·exact z6e.2 ⟨y,List.mem_append_left _ hy,h⟩
  rcases List.mem_cons.1 hy with rfl|hy
  ·refine z6e.2 ⟨a, by simp, ?_⟩
   rcases List.mem_append.1 h with h|h
   ·exact List.mem_append_left _ (hb▸h)
   ·exact List.mem_append_right _ (hs b h)
  ·exact z6e.2 ⟨y,by simp[hy],h⟩
 ·rcases List.mem_cons.1 hb with hb | hb
  ·rw [hb]
   exact List.mem_cons_self
  ·exact List.mem_cons_of_mem _ (z6e.2 ⟨a,by simp,List.mem_append_left _ hb⟩)
theorem Sub1.cons(k:ArmsAt H ab (P++a::R))(k1:ArmAt H1 ab (0+P.length*2) a.nb a.N ((z10d (P++a::R)).set (0+P.length*2+1) v') v' l')(hb:zd6 v'=zd6 a.v)(hl:∀x∈l',x∈a.l)(hll:l'.length≤a.l.length)(hF:(a.N,l'.map (·.2))=F (z10f a))(t:Tch (ab::zd6 a.v) H H1)(hn:H1.next=H.next)(S:Sub1 H1 H' ab R R' F (P++[{a with v:=v',l:=l'}])):
  Sub1 H H' ab (a::R) ({a with v:=v',l:=l'}::R') F P:=by
 obtain⟨_,q2,q3⟩:=z3d7 k k1 hb hl t;obtain⟨s1,s2,s3,s4,s5,s6,s7,s8⟩:=S;have re:∀X:List ArmT,(P++[{a with v:=v',l:=l'}])++X=P++{a with v:=v',l:=l'}::X:=fun X=>by simp
 rw[re] at s1 s3 s6;rw[re] at s6;refine⟨q3.trans (s1.mono fun b hb=>.inl ?_),s2.trans hn,s3,?_,?_,fun b hb=>q2 b (s6 b hb),fun B hB y hy=>?_,?_⟩
 ·rcases List.mem_cons.1 hb with hb | hb
  ·rw [hb]
   exact List.mem_cons_self
  ·exact List.mem_cons_of_mem _ (q2 b hb)
 ·rw [List.map_cons, List.map_cons, List.map_cons, s4, ← hF]
  rfl
 ·rw[List.map_cons,List.map_cons,s5]
 ·rcases List.mem_cons.1 hy with rfl | hy
  ·have := hB a List.mem_cons_self
   exact⟨Nat.le_trans hll this.1,fun x hx=>this.2 x (hl x hx)⟩
  ·exact s7 B (fun y hy=>hB y (List.mem_cons_of_mem _ hy)) y hy
 ·rw [List.map_cons, List.map_cons, s8]
  show zd6 v'::_=_;rw[hb]
end
section
variable {n d mb ab L f:Nat}{Q:ARes→AHeap→Prop}{k:AHeap→R}{bv:AV}
theorem z395(hn:1000000<n)(hL:L<1000):
  ∀(R P:List ArmT) (fu:Nat) (H:AHeap),R.length<fu→P.length+R.length=L→ArmsAt H ab (P++R)→RowH H mb TMat [.sl ab 0 L 2,bv,.int .i64 (f:Int)]→mb<H.next→mb ∉ ab::z59 (P++R)→z2f3 90001 R→(∀a∈R,zd6 a.v≠[])→
   (∀(H':AHeap) (R':List ArmT),Sub1 H H' ab R R' (z2c5 f) P→Wp (k H') Q)→Wp (z6f (world n (d+2)) (.ptr mb 0) (L:Int) k fu (P.length:Int) H) Q
 |_,_,0,_,hf,_,_,_,_,_,_,_,_=>by omega
 |[],P,fu+1,H,hf,hPL,ka,km,hm,hmd,hB,hne,hk=>by
  have hPl:P.length=L:=hPL;rw[zae];unfold z62
  ((with_reducible refine Wp.lett ?_))
  refine y6 (by rw[decide_eq_false_iff_not];omega) ?_;exact hk H [] (Sub1.nil ka)
 |a::R,P,fu+1,H,hf,hPL,ka,km,hm,hmd,hB,hne,hk=>by
  rw[List.length_cons] at hf hPL;have hPl:P.length<L:=by omega
  have hBa:=hB a List.mem_cons_self;obtain⟨k1,hab⟩:=ka.at;have c0:=y5 km (show ([.sl ab 0 L 2,bv,.int .i64 (f:Int)]:List AV)[0]? =some (.sl ab 0 L 2) from rfl);have c2:=y5 km (show ([.sl ab 0 L 2,bv,.int .i64 (f:Int)]:List AV)[2]? =some (.int .i64 (f:Int)) from rfl)
  obtain⟨v',H1,e1,q1,q2,q3,q4⟩:=forget_r (n:=n) (d:=d) (f:=f) k1 (hne a List.mem_cons_self) hab (by omega) (fun x hx=>by
   have:=hBa.2 x hx;omega) hn
  have hds:∀x∈z232 f a.l,x∈a.l:=fun x hx=>by
   obtain⟨j,_,e⟩:=z356 f a.l;rw[e] at hx;exact List.mem_of_mem_drop hx
  have hdl:(z232 f a.l).length≤a.l.length:=by
   obtain⟨j,_,e⟩:=z356 f a.l;rw[e,List.length_drop];omega
  obtain⟨o1,o2,o3⟩:=z3d7 ka q1 q2 hds q4;have el:(P.length:Int)+1=((P.length+1:Nat):Int):=by omega
  have i1:=z257 (b:=ab) hPl;rw[zae];unfold z62
  ((with_reducible refine Wp.lett ?_))
  refine y9 (by rw[decide_eq_true_eq];omega) ?_;refine Wp.obind (z10 _ _) (Wp.obind (z8 _ _ _) (Wp.obind c0 (Wp.obind i1 (Wp.obind (z10 _ _) (Wp.obind (z8 _ _ _) (Wp.obind c2 (Wp.obind (z4 _ _) (Wp.callN e1 ?_))))))))
  (((with_reducible refine ye ?_ ?_ ?_);omega;omega))
  rw[el];have re:∀X:List ArmT,(P++[{a with v:=v',l:=z232 f a.l}])++X=P++{a with v:=v',l:=z232 f a.l}::X:=fun X=>by simp
  have hP1:(P++[{a with v:=v',l:=z232 f a.l}]).length=P.length+1:=by rw[List.length_append,List.length_singleton]
  rw[←hP1];refine z395 hn hL R _ fu H1 (by omega) (by omega) (by rw[re];exact o1) (km.tch o3 hm hmd) (by omega) (fun hb=>hmd ?_) (fun y hy=>hB y (List.mem_cons_of_mem _ hy)) (fun y hy=>hne y (List.mem_cons_of_mem _ hy)) fun H' R' s=>hk H' _ (Sub1.cons ka q1 q2 hds hdl ?_ q4 q3 s)
  ·rw [re] at hb
   rcases List.mem_cons.1 hb with hb|hb
   ·rw [hb]
    exact List.mem_cons_self
   ·exact List.mem_cons_of_mem _ (o2 _ hb)
  ·rw [dropW_W]
   rfl
theorem z31d(hL:L<1000):
  ∀(R P:List ArmT) (fu:Nat) (H:AHeap),R.length<fu→P.length+R.length=L→ArmsAt H ab (P++R)→RowH H mb TMat [.sl ab 0 L 2,bv,.int .i64 (f:Int)]→mb<H.next→mb ∉ ab::z59 (P++R)→
   (∀(H':AHeap) (R':List ArmT),Sub1 H H' ab R R' z26d P→Wp (k H') Q)→Wp (z63 (world n (d+1)) (.ptr mb 0) (L:Int) k fu (P.length:Int) H) Q
 |_,_,0,_,hf,_,_,_,_,_,_=>by omega
 |[],P,fu+1,H,hf,hPL,ka,km,hm,hmd,hk=>by
  have hPl:P.length=L:=hPL;rw[za5];unfold z56
  ((with_reducible refine Wp.lett ?_))
  refine y6 (by rw[decide_eq_false_iff_not];omega) ?_;exact hk H [] (Sub1.nil ka)
 |a::R,P,fu+1,H,hf,hPL,ka,km,hm,hmd,hk=>by
  rw[List.length_cons] at hf hPL;have hPl:P.length<L:=by omega
  obtain⟨k1,hab⟩:=ka.at;obtain⟨p1,p2,p3,p4,p5,p6,p7,p8,p9,p10,p11,p12,p13,p14⟩:=id k1
  have hlen:0+P.length*2+1<(z10d (P++a::R)).length:=by
   rw[z239,List.length_append,List.length_cons];omega
  have c0:=y5 km (show ([.sl ab 0 L 2,bv,.int .i64 (f:Int)]:List AV)[0]? =some (.sl ab 0 L 2) from rfl);obtain⟨v',H1,e1,q0,q1,q2,q3,q4⟩:=z25d (n:=n) (d:=d) (live:=0) p1 p4 p2 p5 (Nat.zero_le _) p11
  have q:ArmAt H1 ab (0+P.length*2) a.nb a.N ((z10d (P++a::R)).set (0+P.length*2+1) v') v' []:=by
   refine⟨q0,by omega,?_,List.getElem?_set_self hlen,q1,(fun _ h=>nomatch h),p7.tch q4 p8 fun hb=>?_,by omega,.nil,(fun _ _ h=>nomatch h),(by rw[q2];exact p11),(fun h=>nomatch h),(by rw[q2];exact p13),(fun h=>nomatch h)⟩
   ·rw [List.getElem?_set_ne (by omega)]
    exact p3
   ·rcases List.mem_cons.1 hb with hb | hb
    ·exact hab hb.symm
    ·exact p13 hb
  obtain⟨o1,o2,o3⟩:=z3d7 ka q q2 (fun _ h=>nomatch h) q4;have el:(P.length:Int)+1=((P.length+1:Nat):Int):=by omega
  have i1:=z257 (b:=ab) hPl;rw[za5];unfold z56
  ((with_reducible refine Wp.lett ?_))
  refine y9 (by rw[decide_eq_true_eq];omega) ?_;refine Wp.obind (z10 _ _) (Wp.obind (z8 _ _ _) (Wp.obind c0 (Wp.obind i1 (Wp.callN e1 ?_))))
  (((with_reducible refine ye ?_ ?_ ?_);omega;omega))
  rw[el];have re:∀X:List ArmT,(P++[{a with v:=v',l:=[]}])++X=P++{a with v:=v',l:=[]}::X:=fun X=>by simp
  have hP1:(P++[{a with v:=v',l:=[]}]).length=P.length+1:=by rw[List.length_append,List.length_singleton]
  rw[←hP1];refine z31d hL R _ fu H1 (by omega) (by omega) (by rw[re];exact o1) (km.tch o3 hm hmd) (by omega) (fun hb=>hmd ?_) fun H' R' s=>hk H' _ (Sub1.cons ka q q2 (fun _ h=>nomatch h) (Nat.zero_le _) rfl q4 q3 s);rw[re] at hb
  rcases List.mem_cons.1 hb with hb|hb
  ·rw [hb]
   exact List.mem_cons_self
  ·exact List.mem_cons_of_mem _ (o2 _ hb)
end
noncomputable def z46f(ab L:Nat)(bv:AV)(g:Nat):List AV:=[.sl ab 0 L 2,bv,.int .i64 (g:Int)]
structure MatAt (h:AHeap) (mb ab:Nat) (az:List ArmT) (bv:AV) (u:Bytes) (g:Nat):Prop where
 row:RowH h mb TMat (z46f ab az.length bv g)
 hmb:mb<h.next
 arms:ArmsAt h ab az
 buf:BufAt h bv u
 m1:mb ∉ ab::z59 az
 m3:∀a∈az,a.nb≠mb
 b1:∀b∈zd6 bv,b≠mb∧b ∉ ab::z59 az∧∀a∈az,a.nb≠b
 len:az.length<1000
def z1e0(mb ab:Nat)(az:List ArmT)(bv:AV):List Nat:=mb::(zd6 bv++(ab::z59 az))
section
variable {h h':AHeap}{mb ab:Nat}{az:List ArmT}{bv:AV}{u:Bytes}{g:Nat}
theorem MatAt.lt(k:MatAt h mb ab az bv u g):∀b∈z1e0 mb ab az bv,b<h.next:=by
 intro b hb
 rcases List.mem_cons.1 hb with hb|hb
 ·rw [hb]
  exact k.hmb
 rcases List.mem_append.1 hb with hb|hb
 ·exact k.buf.lt b hb
 rcases List.mem_cons.1 hb with hb|hb
 ·rw [hb]
  exact k.arms.hab
 ·exact k.arms.lt b hb
theorem MatAt.tch{S:List Nat}(k:MatAt h mb ab az bv u g)(t:Tch S h h')(hS:∀b∈z1e0 mb ab az bv,b ∉ S)(hn:∀a∈az,a.nb ∉ S):MatAt h' mb ab az bv u g:=by
 obtain⟨k1,k2,k3,k4,k5,k6,k7,k8⟩:=k;refine⟨k1.tch t k2 (hS mb List.mem_cons_self),Nat.lt_of_lt_of_le k2 t.1,k3.tch t (hS ab ?_) hn (fun b hb=>hS b ?_),k4.tch t (fun b hb=>hS b ?_),k5,k6,k7,k8⟩
 ·exact List.mem_cons_of_mem _ (List.mem_append_right _ List.mem_cons_self)
 ·exact List.mem_cons_of_mem _ (List.mem_append_right _ (List.mem_cons_of_mem _ hb))
 ·exact List.mem_cons_of_mem _ (List.mem_append_left _ hb)
theorem armB{b:Nat}(hb:b∈ab::z59 az):b∈z1e0 mb ab az bv:=List.mem_cons_of_mem _ (List.mem_append_right _ hb)
theorem bufB{b:Nat}(hb:b∈zd6 bv):b∈z1e0 mb ab az bv:=List.mem_cons_of_mem _ (List.mem_append_left _ hb)
theorem matB{b:Nat}(hb:b∈[mb]):b∈z1e0 mb ab az bv:=by rw[List.mem_singleton.1 hb];exact List.mem_cons_self
end
theorem idx_sl1{b m i:Nat}(h:i<m):z1a8 1 (.sl b 0 m 1) (i:Int)=some (.ptr b (0+i*1)):=by
 have e:Nat.blt i m=true:=by simpa using h
 show (match Nat.blt i m with|true=>some (AV.ptr b (0+i*1))|false=>none)=_;rw[e]
theorem buf_shift{u:Bytes}{rest:List AV}{m c0:Nat}(hu:u.length=m+1)(hc0:c0<256):(laid (z65 u++rest) 0 (z65 (u.drop 1))).set (0+m*1) (.int .u8 (c0:Int))=z65 (u.drop 1++[UInt8.ofNat c0])++rest:=by
 have h1:(z65 (u.drop 1)).length=m:=by rw[zb1,List.length_drop];omega
 have h2:(z65 u).length=m+1:=by rw[zb1,hu]
 unfold laid;rw[List.take_zero,List.nil_append,h1,Nat.zero_add,Nat.zero_add,Nat.mul_one,List.drop_append_of_le_length (by omega),List.set_append_right _ _ (by omega),h1,Nat.sub_self]
 obtain⟨x,hx⟩:∃x,(z65 u).drop m=[x]:=by
  have:=List.drop_eq_getElem_cons (l:=z65 u) (i:=m) (by omega);have e0:(z65 u).drop (m+1)=[]:=List.drop_of_length_le (by omega);rw[e0] at this;exact⟨_,this⟩
 rw[hx,z235];show z65 (u.drop 1)++(AV.int .u8 (c0:Int)::rest)=z65 (u.drop 1)++[AV.int .u8 ((UInt8.ofNat c0).toNat:Int)]++rest;rw[UInt8.toNat_ofNat_of_lt' hc0,List.append_assoc];rfl
def z1be(u:Bytes)(c:UInt8):Bytes:=if u.length<256 then u++[c] else u.drop 1++[c]
def z112(u:Bytes)(g:Nat):Nat:=if u.length<256 then g else g+1
def z397(u:Bytes)(g:Nat)(A:List z2f4):List z2f4:=if u.length<256 then A else A.map (z2c5 (g+1))
section
variable {n d mb ab g byte:Nat}{h:AHeap}{az:List ArmT}{bv:AV}{u:Bytes}
theorem keep_r(hn:1000000<n)(hby:byte<256)(k:MatAt h mb ab az bv u g)(hu:u.length≤256)(hlive:u.length=256→∀a∈az,zd6 a.v≠[])(hB:z2f3 90001 az)(hg:g+u.length<90000)(hx:h.ex=[]):
  ∃h' az' bv',world n (d+3) 34 [.ptr mb 0,.int .u8 (byte:Int)] h=some (.ret (.tup []),h')∧MatAt h' mb ab az' bv' (z1be u (UInt8.ofNat byte)) (z112 u g)∧az'.map z10f=z397 u g (az.map z10f)∧az'.map (·.nb)=az.map (·.nb)∧(∀b∈z1e0 mb ab az' bv',b∈z1e0 mb ab az bv∨h.next≤b)∧Tch (z1e0 mb ab az bv) h h'∧∀B,z2f3 B az→z2f3 B az':=by
 suffices hK:Wp (world n (d+3) 34 [.ptr mb 0,.int .u8 (byte:Int)] h) fun r h'=>∃az' bv',r=.ret (.tup [])∧MatAt h' mb ab az' bv' (z1be u (UInt8.ofNat byte)) (z112 u g)∧az'.map z10f=z397 u g (az.map z10f)∧az'.map (·.nb)=az.map (·.nb)∧(∀b∈z1e0 mb ab az' bv',b∈z1e0 mb ab az bv∨h.next≤b)∧Tch (z1e0 mb ab az bv) h h'∧∀B,z2f3 B az→z2f3 B az' by
  obtain⟨_,h',e,az',bv',rfl,k⟩:=hK;exact⟨h',az',bv',e,k⟩
 obtain⟨k1,k2,k3,k4,k5,k6,k7,k8⟩:=id k;rw[z1db];unfold z77;have c1:=y5 k1 (show (z46f ab az.length bv g)[1]? =some bv from rfl);refine Wp.obind (z10 _ _) (Wp.obind (z8 _ _ _) (Wp.obind c1 (Wp.obind k4.len ?_)))
 ((with_reducible refine Wp.lett ?_))
 by_cases h256:u.length<256
 ·refine y9 (by rw [decide_eq_true_eq]; omega) ?_
  refine Wp.obind (z10 _ _) (Wp.obind (z8 _ _ _) (Wp.obind c1 ?_));refine y32 (Mem.nil [] h) (bldSlBy _ _) rfl (by rw[hx];rfl) fun h2 M2=>?_;have t2:=M2.tch;obtain⟨h3,e3,kb3,hlt3,t3⟩:=(k4.tch t2 (fun _ _=>by simp)).push M2.at0.1 hby (by omega) (by rw[t2.2.1,hx]);refine Wp.outK e3 ?_;refine Wp.obind (z10 _ _) (Wp.obind (z8 _ _ _) ?_);show Wp (Abs.obind (z15 h3 1 [AV.sl h2.next 0 (u.length+1) 1] (.ptr mb (0+1))) _) _;have n2:=t2.1;have hmbS:mb ∉ zd6 bv:=fun hb=>(k7 mb hb).1 rfl;have t03:Tch (zd6 bv) h h3:=(t2.mono fun b hb=>nomatch hb).trans t3;refine Wp.st1 (k1.tch t03 k2 hmbS) (show 0+1<3 by decide) rfl fun h4 k4' t4 n4=>?_;have hlt:=k.lt;have t04:Tch (mb::zd6 bv) h h4:=(t03.mono fun b hb=>.inl (List.mem_cons_of_mem _ hb)).trans (t4.mono fun b hb=>.inl (by rw[List.mem_singleton.1 hb];exact List.mem_cons_self))
  have arms4:ArmsAt h4 ab az:=k3.tch t04 (fun hb=>by
   rcases List.mem_cons.1 hb with hb|hb
   ·exact k5 (hb▸List.mem_cons_self)
   ·exact(k7 _ hb).2.1 List.mem_cons_self) (fun a ha hb=>by
   rcases List.mem_cons.1 hb with hb|hb
   ·exact k6 a ha hb
   ·exact(k7 _ hb).2.2 a ha rfl) (fun b hb' hb=>by
   rcases List.mem_cons.1 hb with hb|hb
   ·exact k5 (hb▸List.mem_cons_of_mem _ hb')
   ·exact(k7 _ hb).2.1 (List.mem_cons_of_mem _ hb'))
  have hab:=k3.hab;have e1:z1be u (UInt8.ofNat byte)=u++[UInt8.ofNat byte]:=if_pos h256;have e2:z112 u g=g:=if_pos h256;have e3:z397 u g (az.map z10f)=az.map z10f:=if_pos h256;rw[e1,e2,e3];refine Wp.ret ⟨az,.sl h2.next 0 (u.length+1) 1,rfl,⟨k4',by omega,arms4,kb3.tch t4 (fun b hb hm=>?_),k5,k6,fun b hb=>?_,k8⟩,rfl,rfl,fun b hb=>?_,t04.mono fun b hb=>.inl ?_,fun _ h=>h⟩
  ·have h1 := List.mem_singleton.1 hb
   have h2:=List.mem_singleton.1 hm;omega
  ·have hb := List.mem_singleton.1 hb
   subst hb;refine⟨by omega,fun hm=>?_,fun a ha e=>?_⟩
   ·have := hlt _ (armB (mb := mb) (bv := bv) hm)
    omega
   ·have := (k3.net a ha).2.2
    omega
  ·rcases List.mem_cons.1 hb with hb | hb
   ·exact .inl (by rw[hb];exact List.mem_cons_self)
   rcases List.mem_append.1 hb with hb|hb
   ·right
    rw[List.mem_singleton.1 hb];exact n2
   ·exact .inl (armB hb)
  ·rcases List.mem_cons.1 hb with hb | hb
   ·rw [hb]
    exact List.mem_cons_self
   ·exact bufB hb
 ·have hul : u.length = 255 + 1 := by omega
  refine y6 (by rw[decide_eq_false_iff_not];omega) ?_
  rcases k4 with⟨rfl,rfl⟩|⟨c,rest,rfl,kc,hc⟩
  ·cases hul
  obtain⟨b1,b2,b3⟩:=k7 c (List.mem_singleton.2 rfl);have he:Abs.elemOf Tryd.prog TBy=some 5:=by kernel_rfl
  have hi:(Tryd.prog.info? 5).isSome=true:=by kernel_rfl
  have hsz:Tryd.prog.cellsOf 5=1:=by kernel_rfl
  have hbl:=zb1 u;have s1:=z243 (P:=Tryd.prog) (h:=h) (b:=c) (o:=0) (m:=u.length) (l1:=1) (k1:=.i64) he hi hsz (by omega) (by omega)
  have ecp:((z65 u++rest).drop (1*1)).take ((u.length - 1)*1)=z65 (u.drop 1):=by
   rw[List.drop_append_of_le_length (by omega),Nat.mul_one,z3f8];exact List.take_left' (by rw[zb1,List.length_drop,Nat.mul_one])
  obtain⟨h2,e2,q2,n2,t2⟩:=z3ad (m:=u.length) (j:=1) he hi hsz kc (by rw[List.length_append];omega) (by omega) (by rw[ecp];exact z465 _);rw[ecp] at q2;have hmc:mb≠c:=fun e=>b1 e.symm;have row2:=k1.tch t2 k2 (by simpa using hmc);have d1:=y5 row2 (show (z46f ab az.length (.sl c 0 u.length 1) g)[1]? =some (.sl c 0 u.length 1) from rfl);refine Wp.obind (z10 _ _) (Wp.obind (z8 _ _ _) (Wp.obind c1 (Wp.obind (z10 _ _) (Wp.obind (z8 _ _ _) (Wp.obind c1 (Wp.outK s1 (Wp.outK e2 (Wp.obind (z4 _ _) ?_))))))));refine Wp.obind (z10 _ _) (Wp.obind (z8 _ _ _) (Wp.obind d1 (Wp.obind (z10 _ _) (Wp.obind (z8 _ _ _) (Wp.obind d1 (Wp.obind (show z187 (.sl c 0 u.length 1)=some (u.length:Int) from rfl) ?_))))))
  (((with_reducible refine ye ?_ ?_ ?_);omega;omega))
  have i1:=idx_sl1 (b:=c) (m:=u.length) (i:=255) (by omega);rw[show ((255:Nat):Int)=(u.length:Int) - 1 by omega] at i1;refine Wp.obind i1 ?_
  have hll:255<(laid (z65 u++rest) 0 (z65 (u.drop 1))).length:=by
   rw[z11b (by rw[zb1,List.length_drop,List.length_append];omega),List.length_append];omega
  refine Wp.st1 q2 (by omega) rfl fun h3 q3 t3 n3=>?_;rw[buf_shift hul hby] at q3;have row3:=row2.tch t3 (by omega) (by simpa using hmc);have d2:=y5 row3 (show (z46f ab az.length (.sl c 0 u.length 1) g)[2]? =some (.int .i64 (g:Int)) from rfl);refine Wp.obind (z10 _ _) (Wp.obind (z8 _ _ _) (Wp.obind d2 (Wp.obind (z4 _ _) ?_)))
  (((with_reducible refine ye ?_ ?_ ?_);omega;omega))
  refine Wp.obind (z10 _ _) (Wp.obind (z8 _ _ _) ?_);refine Wp.st1 row3 (show 0+2<3 by decide) rfl fun h4 row4 t4 n4=>?_;have eg:(g:Int)+1=((g+1:Nat):Int):=by omega
  rw[eg] at row4;have row4':RowH h4 mb TMat [.sl ab 0 az.length 2,.sl c 0 u.length 1,.int .i64 ((g+1:Nat):Int)]:=row4;have d3:=y5 row4' (show ([.sl ab 0 az.length 2,.sl c 0 u.length 1,.int .i64 ((g+1:Nat):Int)]:List AV)[0]? =some (.sl ab 0 az.length 2) from rfl);refine Wp.obind (z10 _ _) (Wp.obind (z8 _ _ _) (Wp.obind d3 (Wp.obind (show z187 (.sl ab 0 az.length 2)=some (az.length:Int) from rfl) ?_)));refine y1a fun k60 ek=>?_;have t23:Tch [c] h h3:=t2.trans t3;have t04:Tch [mb,c] h h4:=(t23.mono fun b hb=>.inl (by rw[List.mem_singleton.1 hb];simp)).trans (t4.mono fun b hb=>.inl (by rw[List.mem_singleton.1 hb];simp))
  have two:∀{b},b∈[mb,c]→b=mb∨b=c:=fun hb=>by
   rcases List.mem_cons.1 hb with hb|hb
   ·exact .inl hb
   ·exact .inr (List.mem_singleton.1 hb)
  have arms4:ArmsAt h4 ab az:=k3.tch t04 (fun hb=>by
   rcases two hb with hb|hb
   ·exact k5 (hb▸List.mem_cons_self)
   ·exact b2 (hb▸List.mem_cons_self)) (fun a ha hb=>by
   rcases two hb with hb|hb
   ·exact k6 a ha hb
   ·exact b3 a ha hb) (fun b hb' hb=>by
   rcases two hb with hb|hb
   ·exact k5 (hb▸List.mem_cons_of_mem _ hb')
   ·exact b2 (hb▸List.mem_cons_of_mem _ hb'))
  refine z395 (n:=n) (d:=d) (L:=az.length) (f:=g+1) hn k8 az [] n h4 (by omega) (by simp) arms4 row4' (by omega) k5 hB (hlive (by omega)) fun H' R' s=>?_;obtain⟨w1,w2,w3,w4,w5,w6,w7,w8⟩:=s;rw[List.nil_append] at w1 w3 w6;rw[List.nil_append] at w6;rw[ek]
  have hlR:R'.length=az.length:=by
   have:=congrArg List.length w5;rw[List.length_map,List.length_map] at this;exact this
  have nbR:∀a∈R',∃w∈az,w.nb=a.nb:=fun a ha=>by
   have:a.nb∈R'.map (·.nb):=List.mem_map_of_mem ha;rw[w5] at this;exact List.mem_map.1 this
  have sub:∀b∈ab::z59 R',b∈ab::z59 az:=fun b hb=>by
   rcases List.mem_cons.1 hb with hb|hb
   ·rw [hb]
    exact List.mem_cons_self
   ·exact List.mem_cons_of_mem _ (w6 b hb)
  have hcl:c<h4.next:=by omega
  have kc4:=(q3.tch t4 (by omega) (by simpa using hmc.symm)).tch w1 hcl b2;have e1:z1be u (UInt8.ofNat byte)=u.drop 1++[UInt8.ofNat byte]:=if_neg h256;have e2:z112 u g=g+1:=if_neg h256;have e3:z397 u g (az.map z10f)=(az.map z10f).map (z2c5 (g+1)):=if_neg h256;have eul:(u.drop 1++[UInt8.ofNat byte]).length=u.length:=by rw[List.length_append,List.length_singleton,List.length_drop];omega
  rw[e1,e2,e3];refine Wp.ret ⟨R',.sl c 0 u.length 1,rfl,⟨?_,by omega,w3,.inr ⟨c,rest,by rw[eul],kc4,by omega⟩,fun hb=>k5 (sub _ hb),fun a ha e=>?_,fun b hb=>?_,by omega⟩,w4,w5,fun b hb=>?_,?_,w7⟩
  ·rw [hlR]
   exact row4'.tch w1 (by omega) k5
  ·obtain ⟨w, hw, e'⟩ := nbR a ha
   exact k6 w hw (e'.trans e)
  ·have hb := List.mem_singleton.1 hb
   subst hb;refine⟨b1,fun hm=>b2 (sub _ hm),fun a ha e=>?_⟩;obtain⟨w,hw,e'⟩:=nbR a ha;exact b3 w hw (e'.trans e)
  ·left
   rcases List.mem_cons.1 hb with hb|hb
   ·rw [hb]
    exact List.mem_cons_self
   rcases List.mem_append.1 hb with hb|hb
   ·exact bufB hb
   ·exact armB (sub b hb)
  ·refine (t04.mono fun b hb => .inl ?_).trans (w1.mono fun b hb => .inl (armB hb))
   rcases two hb with hb|hb
   ·rw [hb]
    exact List.mem_cons_self
   ·rw [hb]
    exact bufB (List.mem_singleton.2 rfl)
theorem empty_r(hn:1000000<n)(k:MatAt h mb ab az bv u g):
  ∃h' az' bv',world n (d+2) 35 [.ptr mb 0] h=some (.ret (.tup []),h')∧MatAt h' mb ab az' bv' [] 0∧az'.map z10f=(az.map z10f).map z26d∧az'.map (·.nb)=az.map (·.nb)∧(∀b∈z1e0 mb ab az' bv',b∈z1e0 mb ab az bv)∧h'.next=h.next∧Tch (z1e0 mb ab az bv) h h':=by
 suffices hK:Wp (world n (d+2) 35 [.ptr mb 0] h) fun r h'=>∃az' bv',r=.ret (.tup [])∧MatAt h' mb ab az' bv' [] 0∧az'.map z10f=(az.map z10f).map z26d∧az'.map (·.nb)=az.map (·.nb)∧(∀b∈z1e0 mb ab az' bv',b∈z1e0 mb ab az bv)∧h'.next=h.next∧Tch (z1e0 mb ab az bv) h h' by
  obtain⟨_,h',e,az',bv',rfl,k⟩:=hK;exact⟨h',az',bv',e,k⟩
 obtain⟨k1,k2,k3,k4,k5,k6,k7,k8⟩:=id k;rw[z1ab];unfold z69;have c1:=y5 k1 (show (z46f ab az.length bv g)[1]? =some bv from rfl)
 obtain⟨v8,s1,hb8,kb8,hc8⟩:∃v8,zb4 Tryd.prog h TBy bv none (some (.int .i64 ((0:Nat):Int)))=some (.val v8,h)∧zd6 v8=zd6 bv∧BufAt h v8 []∧v8.one=true∧AV.cells v8=[v8]:=by
  rcases k4 with⟨rfl,rfl⟩|⟨c,rest,rfl,kc,hc⟩
  ·exact⟨.nsl,by kernel_rfl,rfl,.inl ⟨rfl,rfl⟩,rfl,rfl⟩
  ·exact⟨.sl c 0 0 1,z408 (P:=Tryd.prog) (e:=5) (k1:=.i64) (by kernel_rfl) (by kernel_rfl) (by kernel_rfl) (Nat.zero_le _),rfl,.inr ⟨c,z65 u++rest,rfl,kc,hc⟩,rfl,rfl⟩
 refine Wp.obind (z10 _ _) (Wp.obind (z8 _ _ _) (Wp.obind c1 (Wp.outK s1 (Wp.obind (z10 _ _) (Wp.obind (z8 _ _ _) ?_)))));rw[hc8.2];refine Wp.st1 k1 (show 0+1<3 by decide) hc8.1 fun h2 r2 t2 n2=>?_;refine Wp.obind (z10 _ _) (Wp.obind (z8 _ _ _) ?_);refine Wp.st1 r2 (show 0+2<3 by decide) rfl fun h3 r3 t3 n3=>?_;have r3':RowH h3 mb TMat [.sl ab 0 az.length 2,v8,.int .i64 ((0:Nat):Int)]:=r3;have d3:=y5 r3' (show ([.sl ab 0 az.length 2,v8,.int .i64 ((0:Nat):Int)]:List AV)[0]? =some (.sl ab 0 az.length 2) from rfl);refine Wp.obind (z10 _ _) (Wp.obind (z8 _ _ _) (Wp.obind d3 (Wp.obind (show z187 (.sl ab 0 az.length 2)=some (az.length:Int) from rfl) ?_)));refine y1a fun k22 ek=>?_;have t03:Tch [mb] h h3:=t2.trans t3;have arms3:ArmsAt h3 ab az:=k3.tch t03 (fun hb=>k5 (List.mem_singleton.1 hb▸List.mem_cons_self)) (fun a ha hb=>k6 a ha (List.mem_singleton.1 hb)) (fun b hb' hb=>k5 (List.mem_singleton.1 hb▸List.mem_cons_of_mem _ hb'));refine z31d (n:=n) (d:=d) (L:=az.length) (f:=0) k8 az [] n h3 (by omega) (by simp) arms3 r3' (by omega) k5 fun H' R' s=>?_;obtain⟨w1,w2,w3,w4,w5,w6,w7,w8⟩:=s;rw[List.nil_append] at w1 w3 w6;rw[List.nil_append] at w6;rw[ek]
 have hlR:R'.length=az.length:=by
  have:=congrArg List.length w5;rw[List.length_map,List.length_map] at this;exact this
 have nbR:∀a∈R',∃w∈az,w.nb=a.nb:=fun a ha=>by
  have:a.nb∈R'.map (·.nb):=List.mem_map_of_mem ha;rw[w5] at this;exact List.mem_map.1 this
 have sub:∀b∈ab::z59 R',b∈ab::z59 az:=fun b hb=>by
  rcases List.mem_cons.1 hb with hb|hb
  ·rw [hb]
   exact List.mem_cons_self
  ·exact List.mem_cons_of_mem _ (w6 b hb)
 have kb3:=kb8.tch t03 (fun b hb hm=>by
  rw[hb8] at hb;exact(k7 b hb).1 (List.mem_singleton.1 hm))
 refine Wp.ret ⟨R',v8,rfl,⟨?_,by omega,w3,kb3.tch w1 (fun b hb=>by rw[hb8] at hb;exact(k7 b hb).2.1),fun hb=>k5 (sub _ hb),fun a ha e=>?_,fun b hb=>?_,by omega⟩,w4,w5,fun b hb=>?_,by omega,?_⟩
 ·rw [hlR]
  exact r3'.tch w1 (by omega) k5
 ·obtain ⟨w, hw, e'⟩ := nbR a ha
  exact k6 w hw (e'.trans e)
 ·rw [hb8] at hb
  obtain⟨b1,b2,b3⟩:=k7 b hb;refine⟨b1,fun hm=>b2 (sub _ hm),fun a ha e=>?_⟩;obtain⟨w,hw,e'⟩:=nbR a ha;exact b3 w hw (e'.trans e)
 ·rcases List.mem_cons.1 hb with hb | hb
  ·rw [hb]
   exact List.mem_cons_self
  rcases List.mem_append.1 hb with hb|hb
  ·rw [hb8] at hb
   exact bufB hb
  ·exact armB (sub b hb)
 ·exact(t03.mono fun b hb=>.inl (matB hb)).trans (w1.mono fun b hb=>.inl (armB hb))
end
abbrev MS:=List z2f4×Bytes×Nat
def z44(m:MS)(c:UInt8):MS:=(z397 m.2.1 m.2.2 m.1,z1be m.2.1 c,z112 m.2.1 m.2.2)
def atM(m:MS):Nat:=m.2.2+m.2.1.length - 1
def z127:MS→Bytes→Nat→Nat×Option (Nat×Int×Nat)×MS
 |m,[],i=>(i,none,m)
 |m,c::s,i=>match (z3e c.toNat (atM (z44 m c)) (z44 m c).1).1 with
  |some z=>(i+1,some (z.1,(z.2:Int) - ((z44 m c).2.2:Int),(z44 m c).2.1.length),((z3e c.toNat (atM (z44 m c)) (z44 m c).1).2.map z26d,[],0))
  |none=>z127 ((z3e c.toNat (atM (z44 m c)) (z44 m c).1).2,(z44 m c).2.1,(z44 m c).2.2) s (i+1)
noncomputable def z45b:Option (Nat×Int×Nat)→List AV
 |some z=>[.int .i64 (z.1:Int),.int .i64 z.2.1,.int .i64 (z.2.2:Int)]
 |none=>[.int .i64 0,.int .i64 0,.int .i64 0]
theorem feedC_len(r:Option (Nat×Int×Nat)):(z45b r).length=3:=by cases r<;>rfl
theorem feedC_one(r:Option (Nat×Int×Nat)):(z45b r).all AV.one=true:=by cases r<;>rfl
theorem z4ac{u:Bytes}{c:UInt8}(h:u.length≤256):(z1be u c).length≤256∧1≤(z1be u c).length:=by
 unfold z1be
 split<;>rw[List.length_append,List.length_singleton]
 ·omega
 ·rw [List.length_drop]
  omega
theorem z4ad{m:MS}{c:UInt8}(h:m.2.1.length≤256):(z44 m c).2.2+(z44 m c).2.1.length=m.2.2+m.2.1.length+1:=by
 show z112 m.2.1 m.2.2+(z1be m.2.1 c).length=_;unfold z112 z1be
 split<;>rw[List.length_append,List.length_singleton]
 ·omega
 ·rw [List.length_drop]
  omega
theorem z4b3{N:Nt}{c B:Nat}:∀(l:List WayW) (a:Option Nat) (f:Nat),(∀x∈l,x.2<B)→(∀g,a=some g→g<B)→hitW N c a l=some f→f<B
 |[],a,f,_,ha,h=>ha f h
 |x::l,a,f,hl,ha,h=>by
  refine z4b3 l (accW N c a x) f (fun y hy=>hl y (List.mem_cons_of_mem _ hy)) (fun g hg=>?_) h
  cases a with
  |some k=>exact ha g hg
  |none=>
   have hg:(if z150 N (stepN N x.1 c)=true then some x.2 else none)=some g:=hg
   split at hg
   ·cases hg
    exact hl x List.mem_cons_self
   ·cases hg
theorem z406{c B:Nat}:∀(A:List z2f4) (z:Nat×Nat),(∀a∈A,∀x∈a.2,x.2<B)→(z3e c B A).1=some z→z.2<B+1∧z.1<A.length
 |[],z,_,h=>by cases h
 |a::A,z,hA,h=>by
  rw[z3e] at h
  split at h
  ·rename_i f hf
   cases h;refine⟨z4b3 _ none f (fun x hx=>?_) (fun g hg=>by cases hg) hf,Nat.succ_pos _⟩
   rcases List.mem_append.1 hx with hx|hx
   ·exact Nat.lt_succ_of_lt (hA a List.mem_cons_self x hx)
   ·rw [List.mem_singleton.1 hx]
    exact Nat.lt_succ_self _
  ·cases hr : (z3e c B A).1 with
   |none=>
    have h2:Option.map _ (z3e c B A).1=some z:=h;rw[hr] at h2;cases h2
   |some w=>
    have h2:Option.map _ (z3e c B A).1=some z:=h;rw[hr] at h2;cases h2;have:=z406 A w (fun a ha=>hA a (List.mem_cons_of_mem _ ha)) hr;exact⟨this.1,by show w.1+1<_;rw[List.length_cons];omega⟩
def MatS(h:AHeap)(mb ab:Nat)(S nbs:List Nat)(m:MS):Prop:=∃az bv,MatAt h mb ab az bv m.2.1 m.2.2∧az.map z10f=m.1∧S=z1e0 mb ab az bv∧nbs=az.map (·.nb)∧m.2.1.length≤256∧z2f3 (m.2.2+m.2.1.length) az∧(m.2.1≠[]→∀a∈az,zd6 a.v≠[])
section
variable {h h':AHeap}{mb ab:Nat}{S nbs:List Nat}{m:MS}
theorem MatS.tch{T:List Nat}(k:MatS h mb ab S nbs m)(t:Tch T h h')(hS:∀b∈S,b ∉ T)(hn:∀b∈nbs,b ∉ T):MatS h' mb ab S nbs m:=by
 obtain⟨az,bv,k1,k2,rfl,rfl,k5⟩:=k;exact⟨az,bv,k1.tch t hS (fun a ha=>hn _ (List.mem_map_of_mem ha)),k2,rfl,rfl,k5⟩
theorem MatS.lt(k:MatS h mb ab S nbs m):∀b∈S,b<h.next:=by
 obtain⟨az,bv,k1,k2,rfl,_⟩:=k;exact k1.lt
theorem MatS.tz(k:MatS h mb ab S nbs m)(hT:HasTz h):0 ∉ S:=by
 obtain⟨az,bv,k1,k2,rfl,_⟩:=k;intro hb
 rcases List.mem_cons.1 hb with hb|hb
 ·exact z240 hT k1.row hb
 rcases List.mem_append.1 hb with hb|hb
 ·rcases k1.buf with ⟨rfl, _⟩ | ⟨c, rest, rfl, kc, _⟩
  ·exact nomatch hb
  ·exact z240 hT kc (List.mem_singleton.1 hb)
 ·exact k1.arms.tz hT hb
end
set_option maxRecDepth 100000 in
theorem z3cc{h:AHeap}{b:Nat}(k:RowH h b z3bc [.int .i64 0,.int .i64 0,.int .i64 0]):z3cd h b z3bc [.int .i64 0,.int .i64 0,.int .i64 0]=true:=by
 obtain⟨t,h1,h2⟩:=k;have e0:t.get 0=some (.int .i64 0):=h2 0 (by decide);have e1:t.get 1=some (.int .i64 0):=h2 1 (by decide);have e2:t.get 2=some (.int .i64 0):=h2 2 (by decide)
 have e3:t.take 0 3=some [.int .i64 0,.int .i64 0,.int .i64 0]:=by
  simp only[T.take,e0,e1,e2]
 unfold z3cd;rw[h1];show (Nat.beq 3 3&&Nat.beq z3bc z3bc&&z2a0 (t.take 0 3) _)=true;rw[e3];rfl
theorem eqMat(b o:Nat)(h:AHeap):ze2 Tryd.prog h .eql 31 true (some (.ptr b o)) (some AV.nilp)=some (.val (.bool false),h):=by kernel_rfl
section
variable {n d mb ab:Nat}{h:AHeap}{S nbs:List Nat}{s:Bytes}{m:MS}{Q:ARes→AHeap→Prop}{k16:AHeap→R}
theorem z3a9(hn:18446744073709551616<n)(hsl:s.length<80000):
  ∀(k i fu:Nat) (m:MS) (S:List Nat) (H:AHeap),k<fu→i+k=s.length→m.2.2+m.2.1.length+k<80000→MatS H mb ab S nbs m→HasTz H→H.ex=[]→RowH H h.next z3bc [.int .i64 0,.int .i64 0,.int .i64 0]→h.next<H.next→h.next ∉ S→(∀b∈nbs,b≠h.next)→
   (∀H' S',(z127 m (s.drop i) i).2.1=none→MatS H' mb ab S' nbs (z127 m (s.drop i) i).2.2→Tch S H H'→(∀b∈S',b∈S∨H.next≤b)→(z127 m (s.drop i) i).1=s.length→Wp (k16 H') Q)→
   (∀H' S' z,(z127 m (s.drop i) i).2.1=some z→MatS H' mb ab S' nbs (z127 m (s.drop i) i).2.2→Tch (h.next::S) H H'→(∀b∈S',b∈S∨H.next≤b)→Q (.ret (.tup [.int .i64 ((z127 m (s.drop i) i).1:Int),.agg (z45b (some z)),.bool true])) H')→
   Wp (z70 (world n (d+5)) (.ptr mb 0) s h k16 fu (i:Int) H) Q
 |_,_,0,_,_,_,hf,_,_,_,_,_,_,_,_,_,_,_=>by omega
 |0,i,fu+1,m,S,H,hf,hm,hb,km,hT,hx,kh,hh,hS,hnb,hk,hq=>by
  have ll:=z57 s;rw[zaf];unfold z64
  repeat(first|(with_reducible refine Wp.lett ?_)|((with_reducible refine y6 ?_ ?_;apply decide_eq_false);omega))
  have e:s.drop i=[]:=List.drop_of_length_le (by omega);rw[e] at hk;exact hk H S rfl km (Tch.refl _ _) (fun b hb=>.inl hb) (by show i=_;omega)
 |k+1,i,fu+1,m,S,H,hf,hm,hb,km,hT,hx,kh,hh,hS,hnb,hk,hq=>by
  have ll:=z57 s;have hi:i<s.length:=by omega
  have hxs:=z28c hi;have el:(i:Int)+1=((i+1:Nat):Int):=by omega
  rw[List.drop_eq_getElem_cons hi] at hk hq
  generalize hc:s[i]=c at hk hq hxs
  have hcb:c.toNat<256:=c.toNat_lt;have hTS:=km.tz hT;obtain⟨az,bv,k1,k2,eS,eN,k5,k6,k7⟩:=km;subst eS
  obtain⟨h1,az1,bv1,e1,m1,a1,n1,s1,t1,b1⟩:=keep_r (n:=n) (d:=d+2) (by omega) hcb k1 k5 (fun e=>k7 (fun e0=>by rw[e0] at e;cases e)) (fun a ha=>by
   have:=k6 a ha;exact⟨by omega,fun x hx=>by have:=this.2 x hx;omega⟩) (by omega) hx
  rw[UInt8.ofNat_toNat] at m1;have hl1:=z4ad (m:=m) (c:=c) k5;obtain⟨hu1,hu2⟩:=z4ac (c:=c) k5
  have e2:z44 m c=(az1.map z10f,z1be m.2.1 c,z112 m.2.1 m.2.2):=by
   show (z397 m.2.1 m.2.2 m.1,_,_)=_;rw[a1,k2]
  have hB1:z2f3 (atM (z44 m c)) az1:=by
   have:atM (z44 m c)=m.2.2+m.2.1.length:=by
    unfold atM;omega
   rw[this];exact b1 _ k6
  have hat:((z112 m.2.1 m.2.2:Nat):Int)+((z1be m.2.1 c).length:Int) - 1=((atM (z44 m c):Nat):Int):=by
   unfold atM;show _=((z112 m.2.1 m.2.2+(z1be m.2.1 c).length - 1:Nat):Int);omega
  have hatl:atM (z44 m c)<80000:=by
   unfold atM;omega
  have kh1:=kh.tch t1 hh hS;have hh1:h.next<h1.next:=Nat.lt_of_lt_of_le hh t1.1;have hT1:=hT.tch t1 hTS;have hx1:h1.ex=[]:=by rw[t1.2.1,hx]
  have r1:=m1.row;have c2:=y5 r1 (show (z46f ab az1.length bv1 (z112 m.2.1 m.2.2))[2]? =some (.int .i64 ((z112 m.2.1 m.2.2:Nat):Int)) from rfl);have c1:=y5 r1 (show (z46f ab az1.length bv1 (z112 m.2.1 m.2.2))[1]? =some bv1 from rfl);have c0:=y5 r1 (show (z46f ab az1.length bv1 (z112 m.2.1 m.2.2))[0]? =some (.sl ab 0 az1.length 2) from rfl)
  have hS1:∀b∈z1e0 mb ab az1 bv1,b≠h.next:=fun b hb e=>by
   rcases s1 b hb with hb|hb
   ·exact hS (e▸hb)
   ·omega
  have hnb1:∀a∈az1,a.nb≠h.next:=fun a ha=>hnb _ (by rw[eN, ←n1];exact List.mem_map_of_mem ha);rw[zaf];unfold z64
  ((with_reducible refine Wp.lett ?_))
  refine y9 (by rw[decide_eq_true_eq];omega) ?_;refine Wp.obind hxs (Wp.callN e1 (Wp.obind (z10 _ _) (Wp.obind (z8 _ _ _) (Wp.obind c2 (Wp.obind (z4 _ _) (Wp.obind (z10 _ _) (Wp.obind (z8 _ _ _) (Wp.obind c1 (Wp.obind m1.buf.len ?_)))))))))
  have hgk:z112 m.2.1 m.2.2≤m.2.2+1:=by
   unfold z112
   split<;>omega
  (((with_reducible refine ye ?_ ?_ ?_);omega;omega))
  (((with_reducible refine ye ?_ ?_ ?_);omega;omega))
  rw[hat];refine Wp.obind (z10 _ _) (Wp.obind (z8 _ _ _) (Wp.obind c0 (Wp.obind hxs ?_)));refine y7 (Mem.nil [] h1) fun h2 M2=>?_;have t2:=M2.tch;have q2:=M2.at0.1;have hq2:=M2.at0.2.1;have arms2:=m1.arms.tch t2 (by simp) (fun _ _=>by simp) (fun _ _=>by simp);obtain⟨h3,R',e3,t3,k3,b3,a3,n3,s3,w3⟩:=z269 (n:=n) (d:=d) (byte:=c.toNat) (at_:=atM (z44 m c)) hn hcb (by omega) m1.len arms2 hB1 (hT1.tch t2 (by simp)) (by rw[t2.2.1,hx1]);refine Wp.callN e3 ?_
  have hqS:h1.next ∉ ab::z59 az1:=fun hb=>by
   have:=m1.lt _ (armB (mb:=mb) (bv:=bv1) hb);omega
  have q3:=q2.tch t3 hq2 hqS;refine Wp.chk (z260 (z3cc q3) rfl) ?_;refine Wp.obind (zd4 _ _) (Wp.obind (z11 _) (Wp.obind (zd3 _ _ _) (Wp.obind (z5 _) ?_)));rw[ze];have hfl:∀r,(z451 0 (atM (z44 m c)) r).length=3∧(z451 0 (atM (z44 m c)) r).all AV.one=true:=fun r=>by cases r<;>exact⟨rfl,rfl⟩
  have hq3:h1.next<h3.next:=Nat.lt_of_lt_of_le hq2 t3.1;refine Wp.stAll q3 (hfl _).1 rfl (hfl _).2 fun h4 q4 t4 n4=>?_
  -- the matcher behind the step
  have n12:=t2.1;have n23:=t3.1;have lt1:=m1.lt
  have nbR:∀a∈R',∃w∈az1,w.nb=a.nb:=fun a ha=>by
   have:a.nb∈R'.map (·.nb):=List.mem_map_of_mem ha;rw[n3] at this;exact List.mem_map.1 this
  have hlR:R'.length=az1.length:=by
   have:=congrArg List.length n3;rw[List.length_map,List.length_map] at this;exact this
  have sub3:∀b∈ab::z59 R',b∈ab::z59 az1∨h2.next≤b:=fun b hb=>by
   rcases List.mem_cons.1 hb with hb|hb
   ·rw [hb]
    exact .inl List.mem_cons_self
   ·exact(s3 b hb).imp (fun h=>List.mem_cons_of_mem _ h) id
  have t14:Tch (ab::z59 az1) h1 h4:=((t2.mono fun b hb=>nomatch hb).trans t3).trans' t4 fun b hb=>by
   rw[List.mem_singleton.1 hb];exact .inr (Nat.le_refl _)
  have m4:MatAt h4 mb ab R' bv1 (z1be m.2.1 c) (z112 m.2.1 m.2.2):=by
   refine⟨?_,Nat.lt_of_lt_of_le m1.hmb t14.1,k3.tch t4 ?_ (fun a ha hm=>?_) (fun b hb hm=>?_),m1.buf.tch t14 (fun b hb=>(m1.b1 b hb).2.1),fun hb=>?_,fun a ha e=>?_,fun b hb=>?_,?_⟩
   ·rw [hlR]
    exact r1.tch t14 m1.hmb m1.m1
   ·intro hm
    have:=m1.arms.hab;have:=List.mem_singleton.1 hm;omega
   ·obtain ⟨w, hw, e⟩ := nbR a ha
    have:=(m1.arms.net w hw).2.2;have:=List.mem_singleton.1 hm;omega
   ·have hm := List.mem_singleton.1 hm
    rcases s3 b hb with hb|hb
    ·have := lt1 b (armB (List.mem_cons_of_mem _ hb))
     omega
    ·omega
   ·rcases sub3 _ hb with hb | hb
    ·exact m1.m1 hb
    ·have := m1.hmb
     omega
   ·obtain ⟨w, hw, e'⟩ := nbR a ha
    exact m1.m3 w hw (e'.trans e)
   ·obtain ⟨p1, p2, p3⟩ := m1.b1 b hb
    refine⟨p1,fun hm=>?_,fun a ha e=>?_⟩
    ·rcases sub3 _ hm with hm | hm
     ·exact p2 hm
     ·have := lt1 b (bufB hb)
      omega
    ·obtain ⟨w, hw, e'⟩ := nbR a ha
     exact p3 w hw (e'.trans e)
   ·rw [hlR]
    exact m1.len
  have subM:∀b∈z1e0 mb ab R' bv1,b∈z1e0 mb ab az1 bv1∨h1.next≤b:=fun b hb=>by
   rcases List.mem_cons.1 hb with hb|hb
   ·exact .inl (by rw[hb];exact List.mem_cons_self)
   rcases List.mem_append.1 hb with hb|hb
   ·exact .inl (bufB hb)
   ·exact(sub3 b hb).imp armB (fun h=>by omega)
  have tA:Tch (z1e0 mb ab az bv) H h4:=t1.trans' t14 fun b hb=>s1 b (armB hb);have hle:H.next≤h1.next:=t1.1
  have subA:∀b∈z1e0 mb ab R' bv1,b∈z1e0 mb ab az bv∨H.next≤b:=fun b hb=>by
   rcases subM b hb with hb|hb
   ·exact s1 b hb
   ·exact .inr (by omega)
  have hph:h.next<h4.next:=by
   have:=t14.1;omega
  have hpS:h.next ∉ z1e0 mb ab R' bv1:=fun hb=>by
   rcases subA _ hb with hb|hb
   ·exact hS hb
   ·omega
  have kh4:RowH h4 h.next z3bc [.int .i64 0,.int .i64 0,.int .i64 0]:=kh1.tch t14 hh1 fun hb=>hS1 _ (armB hb) rfl;have hT4:HasTz h4:=hT1.tch t14 (m1.arms.tz hT1);have nbs1:nbs=R'.map (·.nb):=by rw[eN,n3,n1]
  cases hz:(z3e c.toNat (atM (z44 m c)) (az1.map z10f)).1 with
  |some z=>
   rw[hz] at q4;refine y9 rfl ?_
   have hzb:=z406 (c:=c.toNat) (B:=atM (z44 m c)) (az1.map z10f) z (fun a ha x hx=>by
    obtain⟨y,hy,rfl⟩:=List.mem_map.1 ha;obtain⟨w,hw,rfl⟩:=List.mem_map.1 hx;exact(hB1 y hy).2 w hw) hz
   have r4:=m4.row;have c24:=y5 r4 (show (z46f ab R'.length bv1 (z112 m.2.1 m.2.2))[2]? =some (.int .i64 ((z112 m.2.1 m.2.2:Nat):Int)) from rfl)
   have hqm:h1.next≠mb:=by
    have:=m1.hmb;omega
   have hz2:=hzb.1;refine Wp.obind (y5 q4 (show (z451 0 (atM (z44 m c)) (some z))[1]? =some (.int .i64 (z.2:Int)) from rfl)) ?_;refine Wp.obind (z4 _ _) (Wp.obind (z10 _ _) (Wp.obind (z8 _ _ _) (Wp.obind c24 (Wp.obind (z4 _ _) ?_))))
   (((with_reducible refine ye ?_ ?_ ?_);omega;omega))
   refine Wp.st1 q4 (show 1<3 by decide) rfl fun h5 q5 t5 n5=>?_;have r5:=r4.tch t5 m4.hmb (by simpa using hqm.symm);have c25:=y5 r5 (show (z46f ab R'.length bv1 (z112 m.2.1 m.2.2))[2]? =some (.int .i64 ((z112 m.2.1 m.2.2:Nat):Int)) from rfl);refine Wp.obind (y5 q5 (show ((z451 0 (atM (z44 m c)) (some z)).set 1 _)[2]? =some (.int .i64 ((atM (z44 m c):Int)+1)) from rfl)) ?_;refine Wp.obind (z4 _ _) (Wp.obind (z10 _ _) (Wp.obind (z8 _ _ _) (Wp.obind c25 (Wp.obind (z4 _ _) ?_))))
   (((with_reducible refine ye ?_ ?_ ?_);omega;omega))
   refine Wp.st1 q5 (show 2<3 by decide) rfl fun h6 q6 t6 n6=>?_;have t46:Tch [h1.next] h4 h6:=t5.trans t6
   have hq1:h1.next ∉ z1e0 mb ab R' bv1:=fun hb=>by
    rcases subM _ hb with hb|hb
    ·have := lt1 _ hb
     omega
    ·rcases List.mem_cons.1 ‹h1.next ∈ z1e0 mb ab R' bv1› with hb | hb
     ·exact hqm hb
     rcases List.mem_append.1 hb with hb|hb
     ·have := lt1 _ (bufB hb)
      omega
     ·rcases sub3 _ hb with hb | hb
      ·exact hqS hb
      ·omega
   have m6:=m4.tch t46 (fun b hb hm=>hq1 (List.mem_singleton.1 hm▸hb)) (fun a ha hm=>by
    obtain⟨w,hw,e⟩:=nbR a ha;have:=(m1.arms.net w hw).2.2;have:=List.mem_singleton.1 hm;omega)
   obtain⟨h7,az7,bv7,e7,m7,a7,n7,s7,nn7,t7⟩:=empty_r (n:=n) (d:=d+3) (by omega) m6;refine Wp.callN e7 ?_
   (((with_reducible refine ye ?_ ?_ ?_);omega;omega))
   have hq6:h1.next<h6.next:=by omega
   have q7:=q6.tch t7 hq6 hq1;refine Wp.obind (y12 q7 rfl) ?_;rw[ze];have kh7:=((kh4.tch t46 hph (by simpa using (show h.next≠h1.next by omega))).tch t7 (by omega) hpS);refine Wp.stAll kh7 rfl rfl rfl fun h8 q8 t8 n8=>?_;refine Wp.obind (y12 q8 rfl) ?_
   have hfd:z127 m (c::s.drop (i+1)) i=(i+1,some (z.1,(z.2:Int) - ((z44 m c).2.2:Int),(z44 m c).2.1.length),((z3e c.toNat (atM (z44 m c)) (z44 m c).1).2.map z26d,[],0)):=by
    rw[z127,show (z44 m c).1=az1.map z10f by rw[e2],hz]
   have hS7:∀b∈z1e0 mb ab az7 bv7,b≠h.next:=fun b hb e=>hpS (e▸s7 b hb)
   have m8:=m7.tch t8 (fun b hb hm=>hS7 b hb (List.mem_singleton.1 hm)) (fun a ha hm=>by
    have:a.nb∈az7.map (·.nb):=List.mem_map_of_mem ha;rw[n7,n3] at this;obtain⟨w,hw,e⟩:=List.mem_map.1 this;exact hnb1 w hw (e.trans (List.mem_singleton.1 hm)))
   have key:=hq h8 (z1e0 mb ab az7 bv7) (z.1,(z.2:Int) - ((z44 m c).2.2:Int),(z44 m c).2.1.length) (by rw[hfd]) (by
    rw[hfd];refine⟨az7,bv7,m8,?_,rfl,?_,Nat.zero_le _,fun a ha=>?_,fun h=>absurd rfl h⟩
    ·rw[a7,a3,e2]
    ·rw[nbs1,n7]
    ·have : z10f a ∈ az7.map z10f := List.mem_map_of_mem ha
     rw[a7] at this;obtain⟨w,_,e⟩:=List.mem_map.1 this;have e':([]:List WayW)=a.l.map (·.2):=congrArg Prod.snd e;have:a.l=[]:=List.map_eq_nil_iff.1 e'.symm;rw[this];exact⟨Nat.zero_le _,fun _ h=>nomatch h⟩) (by
    have tB:Tch (z1e0 mb ab az bv) H h7:=(tA.trans' t46 fun b hb=>by
     rw[List.mem_singleton.1 hb];exact .inr hle).trans' t7 subA
    exact(tB.mono fun b hb=>.inl (List.mem_cons_of_mem _ hb)).trans (t8.mono fun b hb=>.inl (by rw[List.mem_singleton.1 hb];exact List.mem_cons_self))) (fun b hb=>subA b (s7 b hb))
   rw[hfd] at key
   have ev:(((z451 0 (atM (z44 m c)) (some z)).set 1 (.int .i64 ((z.2:Int) - ((z112 m.2.1 m.2.2:Nat):Int)))).set 2 (.int .i64 ((atM (z44 m c):Int)+1 - ((z112 m.2.1 m.2.2:Nat):Int))))=z45b (some (z.1,(z.2:Int) - ((z44 m c).2.2:Int),(z44 m c).2.1.length)):=by
    show [AV.int .i64 ((0+z.1:Nat):Int),AV.int .i64 ((z.2:Int) - ((z112 m.2.1 m.2.2:Nat):Int)),AV.int .i64 ((atM (z44 m c):Int)+1 - ((z112 m.2.1 m.2.2:Nat):Int))]=[AV.int .i64 (z.1:Int),AV.int .i64 ((z.2:Int) - ((z112 m.2.1 m.2.2:Nat):Int)),AV.int .i64 ((z1be m.2.1 c).length:Int)];rw[Nat.zero_add, ←hat]
    congr 3
    congr 1
    omega
   rw[ev,el];exact Wp.ret key
  |none=>
   refine y6 rfl ?_
   (((with_reducible refine ye ?_ ?_ ?_);omega;omega))
   rw[el]
   have hfd:z127 m (c::s.drop (i+1)) i=z127 ((z3e c.toNat (atM (z44 m c)) (z44 m c).1).2,(z44 m c).2.1,(z44 m c).2.2) (s.drop (i+1)) (i+1):=by
    rw[z127,show (z44 m c).1=az1.map z10f by rw[e2],hz]
   rw[hfd] at hk hq
   have key:MatS h4 mb ab (z1e0 mb ab R' bv1) nbs ((z3e c.toNat (atM (z44 m c)) (z44 m c).1).2,(z44 m c).2.1,(z44 m c).2.2):=by
    refine⟨R',bv1,m4,by rw[a3,e2],rfl,nbs1,hu1,?_,fun _=>w3 hz⟩
    have:(z44 m c).2.2+(z44 m c).2.1.length=atM (z44 m c)+1:=by
     unfold atM;omega
    show z2f3 ((z44 m c).2.2+(z44 m c).2.1.length) R';rw[this];exact b3
   refine z3a9 hn hsl k (i+1) fu _ (z1e0 mb ab R' bv1) h4 (by omega) (by omega) (by show (z44 m c).2.2+(z44 m c).2.1.length+k<80000;omega) key hT4 (by rw[t14.2.1,hx1]) kh4 hph hpS hnb (fun H' S' z' k' t' s' l'=>hk H' S' z' k' (tA.trans' t' subA) (fun b hb=>?_) l') (fun H' S' z z' k' t' s'=>hq H' S' z z' k' ((tA.mono fun b hb=>.inl (List.mem_cons_of_mem _ hb)).trans' t' fun b hb=>?_) fun b hb=>?_)
   ·rcases s' b hb with hb | hb
    ·exact subA b hb
    ·exact .inr (Nat.le_trans tA.1 hb)
   ·rcases List.mem_cons.1 hb with hb | hb
    ·exact .inl (by rw[hb];exact List.mem_cons_self)
    ·exact(subA b hb).imp (fun h=>List.mem_cons_of_mem _ h) id
   ·rcases s' b hb with hb | hb
    ·exact subA b hb
    ·exact .inr (Nat.le_trans tA.1 hb)
end
open Go.RowKit Abs
structure Frag where
 e:Bool
 F:Nat→Prop
 L:Nat→Prop
 E:Nat→Nat→Prop
 K:Nat→Nat→Prop
inductive Walk (a:Frag):Nat→List Nat→Nat→Prop
 |nil {q:Nat}:Walk a q [] q
 |cons {q r q' c:Nat} {s:List Nat} (e:a.E q r) (k:a.K r c) (w:Walk a r s q'):Walk a q (c::s) q'
def Fits1(a:Frag):List Nat→Prop
 |[]=>False
 |c::s=>∃q q',a.F q∧a.K q c∧a.L q'∧Walk a q s q'
structure Rec (a:Frag) (P:List Nat→Prop) (lo hi:Nat):Prop where
 e:a.e=true↔P []
 f:∀{c:Nat} {s:List Nat},Fits1 a (c::s)↔P (c::s)
 le:lo≤hi
 F:∀{q},a.F q→lo≤q∧q<hi
 L:∀{q},a.L q→lo≤q∧q<hi
 E:∀{q r},a.E q r→(lo≤q∧q<hi)∧lo≤r∧r<hi
 K:∀{q c},a.K q c→lo≤q∧q<hi
section
variable {a b:Frag}{P Q:List Nat→Prop}{lo mid hi u:Nat}{w:List Nat}
theorem Walk.left(ha:Rec a P lo mid)(hb:Rec b Q mid hi){X:Nat→Nat→Prop}{f:Frag}(hE:∀{q r},f.E q r→a.E q r∨b.E q r∨X q r)(hX:∀{q r},X q r→r<mid→False)(hK:∀{q c},f.K q c→a.K q c∨b.K q c){q q':Nat}{s:List Nat}(v:Walk f q s q'):
  q<mid→q'<mid→Walk a q s q':=by
 have back:∀{q q':Nat} {s:List Nat},Walk f q s q'→mid≤q→(∀{q r},X q r→mid≤r)→mid≤q':=by
  intro q q' s v
  induction v with
  |nil=>exact fun h _=>h
  |cons e k _ ih=>
   intro hq hx
   rcases hE e with h|h|h
   ·have := (ha.E h).1
    omega
   ·exact ih (hb.E h).2.1 hx
   ·exact ih (hx h) hx
 have hx2:∀{q r},X q r→mid≤r:=fun h=>Nat.le_of_not_lt fun h2=>hX h h2
 induction v with
 |nil=>exact fun _ _=>.nil
 |cons e k w ih=>
  intro h1 h2
  rcases hE e with h|h|h
  ·refine .cons h ?_ (ih (ha.E h).2.2 h2)
   rcases hK k with k|k
   ·exact k
   ·have := hb.K k
    have:=(ha.E h).2;omega
  ·have := (hb.E h).1
   omega
  ·have := back w (hx2 h) hx2
   omega
end
section
variable {N:Nt}(k:NtOk N)
include k
end
def oneB(c:UInt8):Nd:=z3ba c.toNat
theorem at?_app(pre rest:Bytes)(i:Nat):at? (pre++rest) (pre.length+i)=(rest[i]?).map UInt8.toNat:=by
 unfold at?
 rw[List.getElem?_append_right (by omega),show pre.length+i - pre.length=i by omega]
theorem z424{r:Res}:∀(rest pre:Bytes) (l:List Nd),FlatP (z27f (pre++rest)) (pre++rest) l pre.length r→r=.ok (z201 3 (l++rest.map oneB),(pre++rest).length)
 |[],pre,l,k=>by
  cases k with
  |stop s=>simp
  |bad s h=>simp at s
  |more s h m=>simp at s
 |c::rest,pre,l,k=>by
  have hc:=at?_app pre (c::rest) 0;rw[Nat.add_zero] at hc
  have hp:z27f (pre++c::rest) pre.length=.ok (z3ba c.toNat,pre.length+1):=by
   unfold z27f;rw[hc];rfl
  cases k with
  |stop s=>simp at s;omega
  |bad s h=>rw[hp] at h;cases h
  |more s h m=>
   rw[hp] at h;cases h;have e:pre++c::rest=(pre++[c])++rest:=by simp
   have m':FlatP (z27f ((pre++[c])++rest)) ((pre++[c])++rest) (l++[oneB c]) (pre++[c]).length r:=by
    rw[←e,List.length_append];exact m
   have:=z424 rest (pre++[c]) (l++[oneB c]) m';rw[this, ←e]
   simp
def litT(u:Bytes):Nd:=z201 3 (u.map oneB)
theorem tree_lit{u:Bytes}{r:Except Nat Nd}(h:TreeP u 1 r):r=.ok (litT u):=by
 generalize hk:(1:Int)=k at h
 cases h with
 |lit a=>
  have:=z424 (r:=_) u [] [] (by rw[List.nil_append];exact a);rw[this];rfl
 |glob a=>cases hk
 |re_bad a=>cases hk
 |re_end a n=>cases hk
 |re a=>cases hk
section
variable {h:AHeap}{mb ab:Nat}{S nbs:List Nat}{m:MS}
theorem MatS.nlt(k:MatS h mb ab S nbs m):∀b∈nbs,b<h.next:=by
 obtain⟨az,bv,k1,k2,rfl,rfl,_⟩:=k;intro b hb;obtain⟨a,ha,rfl⟩:=List.mem_map.1 hb;exact(k1.arms.net a ha).2.2
end
section
variable {n d mb ab:Nat}{h:AHeap}{S nbs:List Nat}{s:Bytes}{m:MS}{v:AV}{ps:List (Int×Bytes)}{ts:List Nd}
theorem feed_ok(hn:18446744073709551616<n)(km:MatS h mb ab S nbs m)(hT:HasTz h)(hx:h.ex=[])(hs:s.length<80000)(hb:m.2.2+m.2.1.length+s.length<80000):
  ∃h' S',world n (d+6) 19 [.ptr mb 0,z17 s] h=some (.ret (.tup [.int .i64 ((z127 m s 0).1:Int),.agg (z45b (z127 m s 0).2.1),.bool (z127 m s 0).2.1.isSome]),h')∧MatS h' mb ab S' nbs (z127 m s 0).2.2∧Tch S h h'∧∀b∈S',b∈S∨h.next≤b:=by
 suffices hK:Wp (world n (d+6) 19 [.ptr mb 0,z17 s] h) fun r h'=>∃S',r=.ret (.tup [.int .i64 ((z127 m s 0).1:Int),.agg (z45b (z127 m s 0).2.1),.bool (z127 m s 0).2.1.isSome])∧MatS h' mb ab S' nbs (z127 m s 0).2.2∧Tch S h h'∧∀b∈S',b∈S∨h.next≤b by
  obtain⟨_,h',e,S',rfl,k⟩:=hK;exact⟨h',S',e,k⟩
 rw[z1dc];unfold z78;have ll:=z57 s;refine y7 (Mem.nil [] h) fun h2 M2=>?_;have t2:=M2.tch;have hlt:=M2.at0.2.1;have n2:=t2.1
 have hS:h.next ∉ S:=fun hb=>by
  have:=km.lt _ hb;omega
 have hnb:∀b∈nbs,b≠h.next:=fun b hb e=>by
  have:=km.nlt b hb;omega
 refine Wp.outK (eqMat mb 0 h2) (Wp.obind (z5 _) (y6 rfl ?_));refine y1a fun k16 ek=>?_;refine z3a9 (n:=n) (d:=d) (h:=h) (nbs:=nbs) hn hs s.length 0 n m S h2 (by omega) (Nat.zero_add _) hb (km.tch t2 (fun _ _=>by simp) (fun _ _=>by simp)) (hT.tch t2 (by simp)) (by rw[t2.2.1,hx]) M2.at0.1 hlt hS hnb (fun H' S' z' k' t' s' l'=>?_) (fun H' S' z z' k' t' s'=>?_)
 ·rw [List.drop_zero] at z' k' l'
  rw[ek,ze];have kh:=M2.at0.1.tch t' hlt hS;refine Wp.stAll kh rfl rfl rfl fun h4 k4 t4 n4=>?_;refine Wp.obind (y12 k4 rfl) ?_;rw[z'];refine Wp.ret ⟨S',by rw[l',ll];rfl,k'.tch t4 (fun b hb hm=>?_) (fun b hb hm=>hnb b hb (List.mem_singleton.1 hm)),?_,fun b hb=>(s' b hb).imp id fun h=>by omega⟩
  ·have hm := List.mem_singleton.1 hm
   rcases s' b hb with hb|hb
   ·exact hS (hm▸hb)
   ·omega
  ·refine ((t2.mono fun b hb => nomatch hb).trans t').trans' t4 fun b hb => ?_
   rw[List.mem_singleton.1 hb];exact .inr (Nat.le_refl _)
 ·rw [List.drop_zero] at z' k' ⊢
  rw[z'];refine⟨S',rfl,k',(t2.mono fun b hb=>nomatch hb).trans' t' fun b hb=>?_,fun b hb=>(s' b hb).imp id fun h=>by omega⟩
  rcases List.mem_cons.1 hb with hb|hb
  ·rw [hb]
   exact .inr (Nat.le_refl _)
  ·exact .inl hb
def z39f(ts:List Nd):MS:=(ts.map fun t=>(za3 t,[]),[],0)
theorem bldMat(ab L:Nat):z2d3 Tryd.prog TMat [(0,.sl ab 0 L 2)]=some (z46f ab L .nsl 0):=by kernel_rfl
theorem new_ok(hn:1000<n)(k:May n d ps ts)(hx:h.ex=[])(kp:Slc h.next h 2 v (ps.map z413)):∃h' mb ab S nbs,world n (d+3) 16 [v] h=some (.ret (.tup [.ptr mb 0,.int .i64 0]),h')∧MatS h' mb ab S nbs (z39f ts)∧Tch [] h h'∧(∀b∈S,h.next≤b)∧(∀b∈nbs,h.next≤b)∧mb<h'.next∧h.next≤mb:=by
 suffices hK:Wp (world n (d+3) 16 [v] h) fun r h'=>∃mb ab S nbs,r=.ret (.tup [.ptr mb 0,.int .i64 0])∧MatS h' mb ab S nbs (z39f ts)∧Tch [] h h'∧(∀b∈S,h.next≤b)∧(∀b∈nbs,h.next≤b)∧mb<h'.next∧h.next≤mb by
  obtain⟨_,h',e,mb,ab,S,nbs,rfl,k⟩:=hK;exact⟨h',mb,ab,S,nbs,e,k⟩
 rw[z296];unfold z14c;obtain⟨ab,h1,az,e1,t1,ka,ha,hab,hblk,hnbs,hB⟩:=z3b3 hn k hx kp;refine Wp.callN e1 (Wp.obind (zd4 _ _) (Wp.obind (zd3 _ _ _) (Wp.obind (z4 _ _) ?_)))
 ((with_reducible refine Wp.lett ?_))
 refine y6 rfl ?_;refine Wp.obind (bldMat _ _) ?_;refine y16 (Mem.nil [] h1) rfl fun h2 M2=>?_;have t2:=M2.tch
 have hlen:az.length=ts.length:=by
  have:=congrArg List.length ha;rw[List.length_map,List.length_map] at this;exact this
 have hts:=k.2.2.len;have h8:=k.2.1;have n1:=t1.1;have hl:=M2.at0.2.1;have hal:=ka.hab;refine Wp.ret ⟨h1.next,ab,z1e0 h1.next ab az .nsl,az.map (·.nb),rfl,⟨az,.nsl,⟨M2.at0.1,hl,ka.tch t2 (by simp) (fun _ _=>by simp) (fun _ _=>by simp),.inl ⟨rfl,rfl⟩,fun hb=>?_,fun a ha e=>?_,(fun _ h=>nomatch h),by omega⟩,ha,rfl,rfl,Nat.zero_le _,fun a ha=>?_,fun h=>absurd rfl h⟩,t1.trans t2,fun b hb=>?_,fun b hb=>?_,hl,n1⟩
 ·rw [hblk] at hb
  have:=List.mem_singleton.1 hb;omega
 ·have := (ka.net a ha).2.2
  omega
 ·have := hB a ha
  exact⟨Nat.le_trans this.1 (Nat.zero_le _),fun x hx=>absurd (this.2 x hx) (Nat.not_lt_zero _)⟩
 ·rcases List.mem_cons.1 hb with hb | hb
  ·omega
  ·rw [hblk] at hb
   have hb:b∈[ab]:=hb;rw[List.mem_singleton.1 hb];exact hab
 ·obtain ⟨a, ha, rfl⟩ := List.mem_map.1 hb
  exact hnbs a ha
theorem new_bad(hn:18446744073709551620<n)(hd:1100≤d)(k:¬ ∃ts,May n d ps ts)(hx:h.ex=[])(kp:Slc h.next h 2 v (ps.map z413))(hbig:ps.length<1000000000000000000):∃h',world n (d+3) 16 [v] h=some (.ret (.tup [.nilp,.int .i64 2]),h')∧Tch [] h h':=by
 suffices hK:Wp (world n (d+3) 16 [v] h) fun r h'=>r=.ret (.tup [.nilp,.int .i64 2])∧Tch [] h h' by
  obtain⟨_,h',e,rfl,k⟩:=hK;exact⟨h',e,k⟩
 rw[z296];unfold z14c;obtain⟨h1,e1,t1⟩:=z467 hn hd k hx kp hbig;refine Wp.callN e1 (Wp.obind (zd4 _ _) (Wp.obind (zd3 _ _ _) (Wp.obind (z4 _ _) ?_)))
 ((with_reducible refine Wp.lett ?_))
 refine y9 rfl ?_;exact Wp.ret ⟨rfl,t1⟩
theorem z290(km:MatS h mb ab S nbs m):world n (d+1) 21 [.ptr mb 0] h=some (.ret (z17 m.2.1),h):=by
 apply Wp.eq;rw[z19e];unfold z5e;obtain⟨az,bv,k1,_⟩:=km;have c1:=y5 k1.row (show (z46f ab az.length bv m.2.2)[1]? =some bv from rfl)
 have e1:z194 Tryd.prog h TBy 9 (some bv)=some (.val (z17 m.2.1),h):=by
  rcases k1.buf with⟨rfl,e⟩|⟨c,rest,rfl,kc,_⟩
  ·rw [e]
   kernel_rfl
  ·refine conv_row (by kernel_rfl) (by kernel_rfl) ?_
   have:=kc.part (o:=0) (n:=(z65 m.2.1).length) (by rw[List.length_append];omega);rw[List.drop_zero,List.take_left' rfl,zb1] at this;exact this
 refine Wp.outK (eqMat mb 0 h) (Wp.obind (z5 _) (y6 rfl ?_));refine Wp.obind (z10 _ _) (Wp.obind (z8 _ _ _) (Wp.obind c1 (Wp.outK e1 (Wp.obind (z32 _) ?_))));exact Wp.ret ⟨rfl,rfl⟩
end
theorem z438{n d:Nat}{k:Int}{u:Bytes}{t:Nd}(hk:k=1∨k=2∨k=3)(hu:u.length≤64)(ht:∀r,TreeP u k r→r=.ok t)(he:z14e t=false)(hn:18446744073709551620<n)(hd:1100≤d):ArmOk n d (k,u) t:=by
 obtain⟨D,rfl⟩:∃D,d=D+3:=⟨d - 3,by omega⟩;obtain⟨r,r1,_,r3⟩:=(z2fa (u:=u) (by omega) hk).2 (by omega)
 obtain rfl:=ht r r1
 have hz:=z299 r1;refine⟨r1,hu,he,fun h hx=>⟨of_ok (z2fb r1) (by omega) (by omega) hn (fun h hx=>r3 (by omega) (by omega) hx) (by rw[hx];rfl),?_⟩⟩;have:=empty_w (n:=n) (D:=D+3) (k:=k) (u:=u) (t:=t) (h:=h) (by omega) (by omega) (by omega) (fun h hx=>r3 (by omega) (by omega) hx) (by rw[hx];rfl);rw[he] at this;exact this
def exP:Nd:=.mk 6 z8f [z3ba 97]
abbrev exV:Bytes:=[97,43]
theorem exV0:¬z43e exV 0:=by unfold z43e;decide
theorem exV_part:PartP exV 0 (.ok (exP,2)):=PartP.sign (i:=0) (j:=1) (t:=z3ba 97) (.one (c:=97) rfl (by unfold z10b;decide) (by decide)) (by decide)
theorem exV_row:RowP exV [] 0 (.ok (exP,2)):=.more exV0 exV_part (RowP.stop (l:=[exP]) (i:=2) (.inl rfl))
theorem z3ed:AltP exV [] 0 (.ok (exP,2)):=AltP.last (l:=[]) (t:=exP) exV_row (by decide)
theorem exV_tree(r:Except Nat Nd)(h:TreeP exV 3 r):r=.ok exP:=by
 generalize hk:(3:Int)=k at h
 cases h with
 |lit a=>cases hk
 |glob a=>cases hk
 |re_bad a=>cases zdf a z3ed
 |re_end a n=>
  cases zdf a z3ed
  exact absurd rfl n
 |re a=>
  cases zdf a z3ed
  rfl
abbrev exPs:List (Int×Bytes):=[(1,[98]),(3,exV)]
abbrev exTs:List Nd:=[litT [98],exP]
theorem exMay{n d:Nat}(hn:18446744073709551620<n)(hd:1100≤d):May n d exPs exTs:=
 ⟨by decide,by decide,.cons (z438 (.inl rfl) (by decide) (fun r h=>tree_lit h) rfl hn hd) (.cons (z438 (.inr (.inr rfl)) (by decide) exV_tree rfl hn hd) .nil)⟩
set_option maxRecDepth 100000 in
theorem ex_first:z126 (exTs.map fun t=>(za3 t,[])) [120,97,98] 0=some (1,1,2):=by kernel_rfl
set_option maxRecDepth 100000 in
theorem ex_feed1:(z127 (z39f exTs) [120,97,98] 0).1=2:=by kernel_rfl
set_option maxRecDepth 100000 in
theorem ex_feed2:(z127 (z39f exTs) [120,97,98] 0).2.1=some (1,1,2):=by kernel_rfl
theorem flatHit:flatB Tryd.prog z3bc [1,1,1]=true:=by kernel_rfl
theorem eqHit(a b c x y z:Int):zc3 Tryd.prog z3bc (.agg [.int .i64 a,.int .i64 b,.int .i64 c]) (.agg [.int .i64 x,.int .i64 y,.int .i64 z])=some ((a == x)&&((b == y)&&((c == z)&&true))):=eq_flat flatHit (z354 rfl (z25c _ _ _) (z354 rfl (z25c _ _ _) (z354 rfl (z25c _ _ _) rfl)))
theorem keepA_w(n d:Nat)(h:AHeap):world n (d+1) 24 [z17 [97]] h=some (.ret (z17 [97]),h):=by
 apply Wp.eq;rw[z261];refine y3c ?_
 suffices hK:Wp (z100 (world n d) n [97] h) fun r h'=>r=.ret (z17 [97])∧h'=h from hK.mono fun r h' ⟨e,t⟩=>⟨by rw[t];exact(Tch.refl [] h).above,by rw[e];rfl,e,rfl⟩
 exact⟨.ret (z17 [97]),h,by kernel_rfl,rfl,rfl⟩
theorem bldPats(h:AHeap):z169 Tryd.prog h 22 2 [(0,.agg ([.int .i64 1,z17 ([98]:Bytes)]:List AV)),(1,.agg ([.int .i64 3,z17 ([97,43]:Bytes)]:List AV))]=zcb h TPat [.int .i64 1,z17 [98],.int .i64 3,z17 [97,43]] 2 2:=by kernel_rfl
set_option maxRecDepth 100000 in
theorem works_w{n d:Nat}{h:AHeap}(hn:18446744073709551620<n)(hd:1200≤d)(hT:HasTz h)(hx:h.ex=[]):world n (d+1) 12 [] h=some (.ret (.bool true),h):=by
 apply Wp.eq;rw[z32f];refine y3c ?_
 suffices hK:Wp (zf4 (world n d) n h) fun r h'=>r=.ret (.bool true)∧Tch [] h h' from hK.mono fun r h' ⟨e,t⟩=>⟨t.above,by rw[e];rfl,e,rfl⟩
 obtain⟨D,rfl⟩:∃D,d=D+6:=⟨d - 6,by omega⟩;unfold zf4;have hxM:∀{h1:AHeap} {rs:List zc7},Abs.Mem [] h h1 rs→h1.ex=[]:=fun M=>by rw[M.ex,hx]
 have hTM:∀{h1:AHeap} {rs:List zc7},Abs.Mem [] h h1 rs→HasTz h1:=fun M=>hT.tch M.tch (by simp);refine y32 (Mem.nil [] h) (bldPats h) rfl (by rw[hx];rfl) fun h1 M1=>?_;have slc:∀{h2:AHeap},RowH h2 h.next TPat [.int .i64 1,z17 [98],.int .i64 3,z17 [97,43]]→h.next<h2.next→Slc h2.next h2 2 (.sl h.next 0 2 2) (exPs.map z413):=fun k hb=>k.slc (ls:=exPs.map z413) rfl (by decide) (by decide) hb;obtain⟨h2,mb,ab,S,nbs,e2,km,t2,hS,hnb,hm1,hm2⟩:=new_ok (n:=n) (d:=D+3) (h:=h1) (by omega) (exMay hn (by omega)) (hxM M1) (slc M1.at0.1 M1.at0.2.1);refine Wp.callN e2 ?_;have M2:=M1.keep t2
 repeat(first|(with_reducible first|refine y8 (fun _ _=>?_)|refine Wp.lett ?_|(apply Wp.obind;first|exact z4 _ _|exact z5 _|exact zd4 _ _|exact zd3 _ _ _))|((with_reducible refine y6 ?_ ?_);first|(with_reducible rfl)|((with_reducible apply z151);omega))|(with_reducible first|(apply Wp.outK;exact eqMat _ _ _)|refine yd (by assumption) ?_))
 obtain⟨h3,e3,t3⟩:=z18d (n:=n) (d:=D) (h:=h2) (s:=[120,97,98]) hn (exMay hn (by omega)) (hxM M2) (hTM M2) (slc M2.at0.1 M2.at0.2.1) (by decide);rw[ex_first,Option.isSome_some] at e3;refine Wp.callN e3 ?_;have M3:=M2.keep t3;have km3:=km.tch t3 (fun _ _=>by simp) (fun _ _=>by simp);refine Wp.obind (zd4 _ _) (Wp.obind (z11 _) (Wp.obind (zd3 _ _ _) (Wp.obind (z5 _) ?_)));refine y7 (Mem.nil [] h3) fun h4 N4=>?_;rw[ze];refine y10 N4 rfl rfl rfl fun h5 N5=>?_;have t35:=N5.tch;have t05:Tch [] h h5:=M3.tch.trans t35;obtain⟨h6,S',e6,km6,t6,s6⟩:=feed_ok (n:=n) (d:=D) (s:=[120,97,98]) (by omega) (km3.tch t35 (fun _ _=>by simp) (fun _ _=>by simp)) (hT.tch t05 (by simp)) (by rw[t05.2.1,hx]) (by decide) (by decide);rw[ex_feed1,ex_feed2,Option.isSome_some] at e6;refine Wp.callN e6 ?_
 have hpS:h3.next ∉ S:=fun hb=>by
  have:=km.lt _ hb;have:=t3.1;omega
 have r6:=N5.at0.1.tch t6 N5.at0.2.1 hpS;have hp6:h3.next<h6.next:=Nat.lt_of_lt_of_le N5.at0.2.1 t6.1;refine Wp.obind (zd4 _ _) (Wp.obind (z4 _ _) (Wp.obind (zd3 _ _ _) (Wp.obind (z11 _) (Wp.obind (extT_2 _ _ _ _) (Wp.obind (z5 _) ?_)))));refine y7 (Mem.nil [] h6) fun h7 K7=>?_;rw[ze];refine y10 K7 rfl rfl rfl fun h8 K8=>?_;have t68:=K8.tch
 have t08:Tch [] h h8:=(t05.trans' t6 fun b hb=>by
  have:=hS b hb;have:=M1.tch.1
  right
  omega).trans t68
 have r8:z16 h8 3 (.ptr h3.next 0)=some [.int .i64 1,.int .i64 1,.int .i64 2]:=y12 (r6.tch t68 hp6 (by simp)) rfl;have q8:z16 h8 3 (.ptr h6.next 0)=some [.int .i64 1,.int .i64 1,.int .i64 2]:=y12 K8.at0.1 rfl;have eq1:zc3 Tryd.prog z3bc (.agg [.int .i64 1,.int .i64 1,.int .i64 2]) (.agg [.int .i64 1,.int .i64 1,.int .i64 2])=some true:=eqHit 1 1 2 1 1 2;have kw:=keepA_w n (D+5) h8
 repeat(first|(with_reducible first|refine y8 (fun _ _=>?_)|refine Wp.lett ?_|(apply Wp.obind;first|exact r8|exact q8|exact eq1|exact z32 _))|((with_reducible refine y9 ?_ ?_);first|(with_reducible rfl)|((with_reducible apply z73);omega))|(with_reducible first|(apply Wp.callN;exact kw)|refine yd (by assumption) ?_))
 exact Wp.ret ⟨rfl,t08⟩
open Go.RowKit Abs
def z2ff(s:Bytes)(f t:Nat):Bytes:=(s.drop f).take (t - f)
def z407(N:Nt)(s:Bytes)(f i:Nat):Bool×Nat:=runN N (false,0) (z2ff s f i)
def zb2(N:Nt)(s:Bytes)(g i:Nat):List WayW:=((List.range' g (i - g)).map fun f=>(z407 N s f i,f)).filter fun x=> !z176 N x.1
def z285(N:Nt)(s:Bytes)(g t:Nat):Option Nat:=(List.range' g (t - g)).find? fun f=>z26a N (z2ff s f t)
section
variable {N:Nt}{s:Bytes}{f g i t:Nat}
theorem z484:z2ff s f f=[]:=by
 unfold z2ff;rw[Nat.sub_self,List.take_zero]
theorem z483(hf:f≤i)(hi:i<s.length):z2ff s f (i+1)=z2ff s f i++[s[i]]:=by
 unfold z2ff;rw[show i+1 - f=(i - f)+1 by omega, ←List.take_append_getElem (l:=s.drop f) (i:=i - f) (by rw[List.length_drop];omega),List.getElem_drop]
 congr 2
 congr 1
 omega
theorem z480:z407 N s f f=(false,0):=by
 unfold z407;rw[z484];rfl
theorem z36f(hf:f≤i)(hi:i<s.length):z407 N s f (i+1)=stepN N (z407 N s f i) (s[i]).toNat:=by
 unfold z407;rw[z483 hf hi];unfold runN;rw[List.foldl_append];rfl
theorem z41f(c:Nat):∀l:List WayW,z349 N c l=(l.map fun x=>(stepN N x.1 c,x.2)).filter fun x=> !z176 N x.1
 |[]=>rfl
 |x::l=>by
  rw[z349,List.map_cons,List.filter_cons, ←z41f c l]
  cases z176 N (stepN N x.1 c)<;>rfl
theorem z2ce(c:Nat):∀l:List WayW,((l.filter fun x=> !z176 N x.1).map fun x=>(stepN N x.1 c,x.2)).filter (fun x=> !z176 N x.1)=(l.map fun x=>(stepN N x.1 c,x.2)).filter fun x=> !z176 N x.1
 |[]=>rfl
 |x::l=>by
  rw[List.filter_cons];cases hd:z176 N x.1 with
  |true=>
   have:=z3ac hd c;rw[if_neg (by decide),z2ce c l,List.map_cons,List.filter_cons];show _=if (!z176 N (stepN N x.1 c))=true then _ else _
   rw[this];rfl
  |false=>
   rw[if_pos (show (!false)=true from rfl),List.map_cons,List.filter_cons,List.map_cons,List.filter_cons,z2ce c l]
theorem z446(h:g≤i):List.range' g (i+1 - g)=List.range' g (i - g)++[i]:=by
 rw[show i+1 - g=(i - g)+1 by omega,List.range'_concat]
 congr 2
 omega
theorem z36d(hg:g≤i)(hi:i<s.length):((((List.range' g (i - g)).map fun f=>(z407 N s f i,f))++[((false,0),i)]).map fun (x:WayW)=>(stepN N x.1 (s[i]).toNat,x.2))=(List.range' g (i+1 - g)).map fun f=>(z407 N s f (i+1),f):=by
 rw[z446 hg,List.map_append,List.map_append,List.map_map]
 congr 1
 ·refine List.map_congr_left fun f hf => ?_
  have:=(List.mem_range'_1.1 hf);show (stepN N (z407 N s f i) (s[i]).toNat,f)=_;rw[z36f (by omega) hi]
 ·show [(stepN N (false, 0) (s[i]).toNat, i)] = [(z407 N s i (i + 1), i)]
  rw[z36f (Nat.le_refl _) hi,z480]
theorem z475(hg:g≤i)(hi:i<s.length):z349 N (s[i]).toNat (zb2 N s g i++[((false,0),i)])=zb2 N s g (i+1):=by
 rw[z41f,List.map_append,List.filter_append];unfold zb2;rw[z2ce, ←List.filter_append, ←List.map_append,z36d hg hi]
theorem z315(c f:Nat):∀l:List WayW,l.foldl (accW N c) (some f)=some f
 |[]=>rfl
 |_::l=>z315 c f l
theorem z39a(c:Nat):∀l:List WayW,hitW N c none l=(l.find? fun x=>z150 N (stepN N x.1 c)).map (·.2)
 |[]=>rfl
 |x::l=>by
  show l.foldl (accW N c) (accW N c none x)=_;rw[List.find?_cons];have e:accW N c none x=if z150 N (stepN N x.1 c)=true then some x.2 else none:=rfl
  rw[e];cases hd:z150 N (stepN N x.1 c) with
  |true=>
   rw[if_pos rfl];exact z315 c x.2 l
  |false=>
   rw[if_neg (by decide)];exact z39a c l
theorem z203(c:Nat):∀l:List WayW,(l.filter fun x=> !z176 N x.1).find? (fun x=>z150 N (stepN N x.1 c))=l.find? fun x=>z150 N (stepN N x.1 c)
 |[]=>rfl
 |x::l=>by
  rw[List.filter_cons,List.find?_cons];cases hd:z176 N x.1 with
  |true=>
   rw[if_neg (by decide),z203 c l,z321 (z3ac hd c)]
  |false=>
   rw[if_pos (show (!false)=true from rfl),List.find?_cons,z203 c l]
theorem hit_find(hg:g≤i)(hi:i<s.length):hitA (s[i]).toNat i (N,zb2 N s g i)=z285 N s g (i+1):=by
 show hitW N (s[i]).toNat none (zb2 N s g i++[((false,0),i)])=_
 have e:(zb2 N s g i++[((false,0),i)]).find? (fun (x:WayW)=>z150 N (stepN N x.1 (s[i]).toNat))=(((List.range' g (i - g)).map fun f=>(z407 N s f i,f))++[((false,0),i)]).find? fun (x:WayW)=>z150 N (stepN N x.1 (s[i]).toNat):=by
  unfold zb2;rw[List.find?_append,List.find?_append,z203]
 rw[z39a,e]
 have e2:∀l:List WayW,(l.find? fun x=>z150 N (stepN N x.1 (s[i]).toNat)).map (·.2)=((l.map fun x=>(stepN N x.1 (s[i]).toNat,x.2)).find? fun x=>z150 N x.1).map (·.2):=by
  intro l;rw[List.find?_map,Option.map_map];rfl
 rw[e2,z36d hg hi,List.find?_map,Option.map_map];unfold z285;show Option.map (fun f=>f) _=_;rw[Option.map_id']
 congr 1
end
def z113(s:Bytes)(g t:Nat):List Nt→Option (Nat×Nat)
 |[]=>none
 |N::Ns=>match z285 N s g t with
  |some f=>some (0,f)
  |none=>(z113 s g t Ns).map fun z=>(z.1+1,z.2)
def z16b(Ns:List Nt)(s:Bytes)(g i:Nat):List z2f4:=Ns.map fun N=>(N,zb2 N s g i)
section
variable {s:Bytes}{g i:Nat}
theorem z29d(hg:g≤i)(hi:i<s.length):∀Ns:List Nt,(z3e (s[i]).toNat i (z16b Ns s g i)).1=z113 s g (i+1) Ns∧(z113 s g (i+1) Ns=none→(z3e (s[i]).toNat i (z16b Ns s g i)).2=z16b Ns s g (i+1))
 |[]=>⟨rfl,fun _=>rfl⟩
 |N::Ns=>by
  obtain⟨h1,h2⟩:=z29d hg hi Ns
  have e:z3e (s[i]).toNat i (z16b (N::Ns) s g i)=match hitA (s[i]).toNat i (N,zb2 N s g i) with
   |some f=>(some (0,f),z389 (s[i]).toNat i (N,zb2 N s g i)::z16b Ns s g i)
   |none=>((z3e (s[i]).toNat i (z16b Ns s g i)).1.map (fun z=>(z.1+1,z.2)),z389 (s[i]).toNat i (N,zb2 N s g i)::(z3e (s[i]).toNat i (z16b Ns s g i)).2):=rfl
  rw[e,hit_find hg hi,z113]
  cases z285 N s g (i+1) with
  |some f=>exact⟨rfl,fun h=>by cases h⟩
  |none=>
   refine⟨congrArg (Option.map fun z:Nat×Nat=>(z.1+1,z.2)) h1,fun h=>?_⟩
   have h3:z113 s g (i+1) Ns=none:=by
    cases hh:z113 s g (i+1) Ns with
    |none=>rfl
    |some z=>rw[hh] at h;cases h
   show z389 (s[i]).toNat i (N,zb2 N s g i)::_=(N,zb2 N s g (i+1))::z16b Ns s g (i+1);rw[h2 h3]
   congr 1
   show (N,z349 N (s[i]).toNat (zb2 N s g i++[((false,0),i)]))=_;rw[z475 hg hi]
def z1c2(Ns:List Nt)(s:Bytes):Nat→Nat→Option (Nat×Nat×Nat)
 |0,_=>none
 |k+1,t=>match z113 s 0 t Ns with
  |some z=>some (z.1,z.2,t)
  |none=>z1c2 Ns s k (t+1)
theorem z425(Ns:List Nt):∀(k i:Nat),i+k=s.length→z126 (z16b Ns s 0 i) (s.drop i) i=z1c2 Ns s k (i+1)
 |0,i,h=>by
  rw[List.drop_of_length_le (by omega)];rfl
 |k+1,i,h=>by
  have hi:i<s.length:=by omega
  obtain⟨h1,h2⟩:=z29d (s:=s) (g:=0) (Nat.zero_le i) hi Ns;rw[List.drop_eq_getElem_cons hi,z126,z1c2,h1];cases hz:z113 s 0 (i+1) Ns with
  |some z=>rfl
  |none=>
   show z126 (z3e (s[i]).toNat i (z16b Ns s 0 i)).2 (s.drop (i+1)) (i+1)=_;rw[h2 hz];exact z425 Ns k (i+1) (by omega)
theorem z2c7(ts:List Nd):z126 (ts.map fun t=>(za3 t,[])) s 0=z1c2 (ts.map za3) s s.length 1:=by
 have:=z425 (s:=s) (ts.map za3) s.length 0 (Nat.zero_add _);rw[List.drop_zero] at this;rw[←this]
 congr 1
 unfold z16b;rw[List.map_map];rfl
end
noncomputable def z189(call:zc)(t0:AV)(k24:AV→Int→AHeap→R)(self:AV→Int→Bytes→AHeap→R)(t6_30:AV)(t7_31:Int)(t9:Bytes)(h_32:AHeap):R:=lett (decide ((z101 t9)>0)) fun (t25:Bool)=>ifB t25 (callN (call 19 [t0,z17 t9] h_32) fun r29 h_38=>obind (z154 0 r29) fun v30=>obind (avInt .i64 v30) fun t30=>obind (z154 1 r29) fun v31=>obind (z6a v31) fun t31=>obind (z154 2 r29) fun v32=>obind (z26 v32) fun t32=>lett (newH h_38 26 [.int .i64 0,.int .i64 0,.int .i64 0]) fun h_46=>obind (z15 h_46 3 t31 (z6 h_38)) fun h_48=>lett (decide (t30<1)) fun (t34:Bool)=>lett (fun (t40:Bool) (h_53:AHeap)=>lett (fun (t55:Bool) (h_56:AHeap)=>ifB t55 (some (.ret (.tup [AV.nsl,.bool false]),h_56)) (lett (IntKind.i64.wrap (t7_31+t30)) fun (t58:Int)=>obind (z263 t9 t30 (z101 t9)) fun t61=>lett (fun (t6_66:AV) (h_67:AHeap)=>self t6_66 t58 t61 h_67) fun k65=>ifB t32 (obind (z16 h_56 3 (z6 h_38)) fun t64=>obind (z2d3 Tryd.prog 82 [(0,.agg t64),(1,.int .i64 t58)]) fun t66=>outK (z169 Tryd.prog h_56 42 1 [(0,.agg t66)]) fun v67 h_70=>outK (z80 Tryd.prog h_70 42 42 t6_30 v67) fun v68 h_72=>k65 v68 h_72) (k65 t6_30 h_56))) fun j55=>ifB t40 (j55 true h_53) (lett (!t32) fun (t43:Bool)=>lett (fun (t54:Bool) (h_75:AHeap)=>j55 t54 h_75) fun j54=>ifB t43 (lett ((t30:Int) != (z101 t9)) fun (t48:Bool)=>lett (fun (t53:Bool) (h_79:AHeap)=>j54 t53 h_79) fun j53=>ifB t48 (j53 true h_53) (obind (z16 h_53 3 (z6 h_38)) fun t50=>obind (zc3 Tryd.prog 26 (.agg t50) (.agg ([.int .i64 0,.int .i64 0,.int .i64 0]:List AV))) fun t52=>lett (!t52) fun (t52_84:Bool)=>j53 t52_84 h_53)) (j54 false h_53))) fun j40=>ifB t34 (j40 true h_48) (lett (decide (t30>(z101 t9))) fun (t39:Bool)=>j40 t39 h_48)) (k24 t6_30 t7_31 h_32)
noncomputable def z15b(call:zc)(t0:AV)(k24:AV→Int→AHeap→R):Nat→AV→Int→Bytes→AHeap→R:=ze9 (fun _ _ _ _=>none) (z189 call t0 k24)
theorem z2ea(call:zc)(t0:AV)(k24:AV→Int→AHeap→R)(m:Nat):z15b call t0 k24 (m+1)=z189 call t0 k24 (z15b call t0 k24 m):=rfl
noncomputable def z18a(call:zc)(n:Nat)(t0:AV)(t1:AV)(k7:AV→AHeap→R)(self:AV→Int→Int→AHeap→R)(t6_11:AV)(t7:Int)(t8:Int)(h_12:AHeap):R:=obind (z187 t1) fun t15=>lett (decide (t8<t15)) fun (t16:Bool)=>ifB t16 (obind (z1a8 1 t1 t8) fun t21=>obind (z7 h_12 t21) fun v22=>obind (z190 v22) fun t22=>lett (fun (t6_25:AV) (t7_26:Int) (h_27:AHeap)=>lett (IntKind.i64.wrap (t8+1)) fun (t18:Int)=>self t6_25 t7_26 t18 h_27) fun k24=>z15b call t0 k24 n t6_11 t7 t22 h_12) (k7 t6_11 h_12)
noncomputable def z15c(call:zc)(n:Nat)(t0:AV)(t1:AV)(k7:AV→AHeap→R):Nat→AV→Int→Int→AHeap→R:=ze9 (fun _ _ _ _=>none) (z18a call n t0 t1 k7)
theorem z2eb(call:zc)(n:Nat)(t0:AV)(t1:AV)(k7:AV→AHeap→R)(m:Nat):z15c call n t0 t1 k7 (m+1)=z18a call n t0 t1 k7 (z15c call n t0 t1 k7 m):=rfl
noncomputable def z392(call:zc)(n:Nat)(t0:AV)(t1:AV)(h:AHeap):R:=lett (fun (t6:AV) (h_8:AHeap)=>some (.ret (.tup [t6,.bool true]),h_8)) fun k7=>z15c call n t0 t1 k7 n AV.nsl 0 0 h
set_option maxHeartbeats 4000000 in
set_option maxRecDepth 20000 in
theorem law11_all_ok{call:zc}(hc:SaysAll Tryd.prog call){n:Nat}{t0:AV}{t1:AV}{h:AHeap}{rR:ARes}{hR:AHeap}(hF:z392 call n t0 t1 h=some (rR,hR)):Says Tryd.prog 22 [t0,t1] h rR hR:=by
 unfold z392 at hF;refine sO Tryd.func22 fun w0 m0=>?_;refine wW [(0,t0),(1,t1)] ?_;refine oG fun n1=>W.r ?_;refine oA 4 AV.nsl ?_;refine oA 5 (.bool false) ?_;refine oV [(0,t0),(1,t1)] (n1 ?_);refine oG fun n2=>W.r ?_;refine oA 6 AV.nsl ?_;refine oV [(0,t0),(1,t1),(6,AV.nsl)] (n2 ?_);refine oG fun n3=>W.r ?_;refine oA 7 (.int .i64 0) ?_;refine oV [(0,t0),(1,t1),(6,AV.nsl),(7,.int .i64 0)] (n3 ?_);refine W.s (fun K4 n4 e4 q4 p4=>?_);refine oG fun n5=>W.r ?_;refine oA 8 (.int .i64 0) ?_;refine oV [(0,t0),(1,t1),(6,AV.nsl),(7,.int .i64 0),(8,.int .i64 0)] (n5 ?_);obtain⟨k7,e7,hF⟩:=z9 hF
 have J7:∀(t6:AV) (h_8:AHeap),k7 t6 h_8=some (rR,hR)→Go w0 m0 (Func.ntmps Tryd.f22) (K4 .normal) [(6,t6)] [] h_8:=by
  intro t6 h_8 hF;rw[e7] at hF;refine n4 ?_;refine oG fun n9=>W.r ?_;refine oA 69 t6 ?_;refine oA 4 t6 ?_;refine oA 5 (.bool true) ?_;refine oV [(4,t6),(5,.bool true)] (n9 (oY ?_));exact lZ hF [.tmp 4,.tmp 5] [t6,.bool true] (rT (rT zd))
 refine yc (by kernel_rfl) (fun K6 n6 s6 o6 q6 p6=>?_);refine y15 (by kernel_rfl) (fun I10 K10 b10 n10 e10 q10 p10=>?_)
 have L10:∀(m:Nat) (t6_11:AV) (t7:Int) (t8:Int) (h_12:AHeap),z15c call n t0 t1 k7 m t6_11 t7 t8 h_12=some (rR,hR)→Go w0 m0 (Func.ntmps Tryd.f22) I10 [(0,t0),(1,t1),(6,t6_11),(7,.int .i64 t7),(8,.int .i64 t8)] [] h_12:=by
  intro m
  induction m with
  |zero=>intro t6_11 t7 t8 h_12 hF;cases hF
  |succ m ih10=>
   intro t6_11 t7 t8 h_12 hF;rw[z2eb] at hF;unfold z18a at hF;refine b10 ?_;refine W.s (fun K13 n13 e13 q13 p13=>?_);refine oG fun n14=>W.r ?_;refine oA 13 (.int .i64 t8) ?_;refine oA 14 t1 ?_;refine oM 15 30 9 hF fun t15 hF=>?_;refine oB 16 hF fun t16 hF=>?_;refine oV [(0,t0),(1,t1),(6,t6_11),(7,.int .i64 t7),(8,.int .i64 t8),(16,.bool t16)] (n14 ?_)
   cases t16 with
   |true=>
    refine oT hF fun hF=>?_;refine oZ (n13 ?_);refine oH fun n17 q17=>?_;refine yc (by kernel_rfl) (fun K18 n18 s18 o18 q18 p18=>?_);refine oG fun n19=>W.r ?_;refine oA 19 t1 ?_;refine oA 20 (.int .i64 t8) ?_;refine oP 21 30 9 .i64 hF fun t21 hF=>?_;refine oLs 22 9 hF fun t22 hF=>?_;refine oA 9 (z17 t22) ?_;refine oV [(0,t0),(1,t1),(6,t6_11),(7,.int .i64 t7),(8,.int .i64 t8),(9,z17 t22)] (n19 ?_);obtain⟨k24,e24,hF⟩:=z9 hF
    have J24:∀(t6_25:AV) (t7_26:Int) (h_27:AHeap),k24 t6_25 t7_26 h_27=some (rR,hR)→Go w0 m0 (Func.ntmps Tryd.f22) (K18 .normal) [(0,t0),(1,t1),(6,t6_25),(7,.int .i64 t7_26),(8,.int .i64 t8)] [] h_27:=by
     intro t6_25 t7_26 h_27 hF;rw[e24] at hF;refine n18 (n17 (W.r ?_));refine oA 17 (.int .i64 t8) ?_;refine oI 18 .i64 hF fun t18 hF=>?_;refine oA 8 (.int .i64 t18) ?_;refine oV [(0,t0),(1,t1),(6,t6_25),(7,.int .i64 t7_26),(8,.int .i64 t18)] (n10 ?_);exact gW _ (ih10 _ _ _ _ hF)
    refine yc (by kernel_rfl) (fun K23 n23 s23 o23 q23 p23=>?_);refine y15 (by kernel_rfl) (fun I29 K29 b29 n29 e29 q29 p29=>?_)
    have L29:∀(m:Nat) (t6_30:AV) (t7_31:Int) (t9:Bytes) (h_32:AHeap),z15b call t0 k24 m t6_30 t7_31 t9 h_32=some (rR,hR)→Go w0 m0 (Func.ntmps Tryd.f22) I29 [(0,t0),(1,t1),(6,t6_30),(7,.int .i64 t7_31),(8,.int .i64 t8),(9,z17 t9)] [] h_32:=by
     intro m
     induction m with
     |zero=>intro t6_30 t7_31 t9 h_32 hF;cases hF
     |succ m ih29=>
      intro t6_30 t7_31 t9 h_32 hF;rw[z2ea] at hF;unfold z189 at hF;refine b29 ?_;refine W.s (fun K33 n33 e33 q33 p33=>?_);refine oG fun n34=>W.r ?_;refine oA 23 (z17 t9) ?_;refine oA 24 (.int .i64 (z101 t9)) ?_;refine oB 25 hF fun t25 hF=>?_;refine oV [(0,t0),(1,t1),(6,t6_30),(7,.int .i64 t7_31),(8,.int .i64 t8),(9,z17 t9),(25,.bool t25)] (n34 ?_)
      cases t25 with
      |true=>
       refine oT hF fun hF=>?_;refine oZ (n33 ?_);refine yc (by kernel_rfl) (fun K36 n36 s36 o36 q36 p36=>?_);refine oG fun n37=>W.r ?_;refine oA 27 t0 ?_;refine oA 28 (z17 t9) ?_;refine oC hc (some 29) hF fun r29 h_38 hF=>?_;refine oA 26 r29 ?_;refine oEi 30 hF fun t30 hF=>?_;refine oEa 31 hF fun t31 hF=>?_;refine oEb 32 hF fun t32 hF=>?_;refine oN 11 hF fun h_46 hF=>?_;refine oA 10 (.int .i64 t30) ?_;refine oW 26 (.agg t31) hF fun h_48 hF=>?_;refine oA 12 (.bool t32) ?_;refine oV [(0,t0),(1,t1),(6,t6_30),(7,.int .i64 t7_31),(8,.int .i64 t8),(9,z17 t9),(10,.int .i64 t30),(11,(z6 h_38)),(12,.bool t32)] (n37 ?_);refine oH fun n50 q50=>?_;refine W.s (fun K51 n51 e51 q51 p51=>?_);refine W.r ?_;refine oA 33 (.int .i64 t30) ?_;refine oB 34 hF fun t34 hF=>?_;refine oA 35 (.bool t34) ?_;obtain⟨j40,e54,hF⟩:=z9 hF
       have J55:∀(t40:Bool) (h_53:AHeap),j40 t40 h_53=some (rR,hR)→WL Tryd.prog w0 m0 (Func.ntmps Tryd.f22) (Code.ops (y4 (y4 (y3 (y4 (y3 (y4 (y4 (y3 (y4 (y4 (y3 (y4 (y4 (y3 (y4 (y3 (y3 (y3 (z72 Tryd.f22)))))))))))))))))))) 8 K51 [(0,t0),(1,t1),(6,t6_30),(7,.int .i64 t7_31),(8,.int .i64 t8),(9,z17 t9),(10,.int .i64 t30),(11,(z6 h_38)),(12,.bool t32),(40,.bool t40)] [] h_53:=by
        intro t40 h_53 hF;rw[e54] at hF;refine oA 41 (.bool t40) ?_;obtain⟨j55,e57,hF⟩:=z9 hF
        have J58:∀(t55:Bool) (h_56:AHeap),j55 t55 h_56=some (rR,hR)→WL Tryd.prog w0 m0 (Func.ntmps Tryd.f22) (Code.ops (y4 (y4 (y3 (y4 (y3 (y4 (y4 (y3 (y4 (y4 (y3 (y4 (y4 (y3 (y4 (y3 (y3 (y3 (z72 Tryd.f22)))))))))))))))))))) 23 K51 [(0,t0),(1,t1),(6,t6_30),(7,.int .i64 t7_31),(8,.int .i64 t8),(9,z17 t9),(10,.int .i64 t30),(11,(z6 h_38)),(12,.bool t32),(55,.bool t55)] [] h_56:=by
         intro t55 h_56 hF;rw[e57] at hF;refine oV [(0,t0),(1,t1),(6,t6_30),(7,.int .i64 t7_31),(8,.int .i64 t8),(9,z17 t9),(10,.int .i64 t30),(11,(z6 h_38)),(12,.bool t32),(55,.bool t55)] (n51 ?_)
         cases t55 with
         |true=>
          refine oT hF fun hF=>?_;refine oG fun n59=>W.r ?_;refine oA 4 AV.nsl ?_;refine oA 5 (.bool false) ?_;refine oV [(4,AV.nsl),(5,.bool false)] (n59 (oY (q50 (q36 (q29 (q23 (q18 (q17 (q10 (q6 (q4 ?_)))))))))));exact lZ hF [.tmp 4,.tmp 5] [AV.nsl,.bool false] (rT (rT zd))
         |false=>
          refine oU hF fun hF=>?_;refine oZ (n50 ?_);refine oG fun n60=>W.r ?_;refine oA 56 (.int .i64 t7_31) ?_;refine oA 57 (.int .i64 t30) ?_;refine oI 58 .i64 hF fun t58 hF=>?_;refine oA 7 (.int .i64 t58) ?_;refine oV [(0,t0),(1,t1),(6,t6_30),(7,.int .i64 t58),(8,.int .i64 t8),(9,z17 t9),(10,.int .i64 t30),(11,(z6 h_38)),(12,.bool t32)] (n60 ?_);refine oG fun n62=>W.r ?_;refine oA 59 (z17 t9) ?_;refine oA 60 (.int .i64 t30) ?_;obtain⟨t61,e63,hF⟩:=z3 hF;refine WL.b (some 61) (z17 t61) h_56 (z20f (P:=Tryd.prog) (h:=h_56) (t:=9) (A:=(some (.int .i64 t30))) (B:=none) (by kernel_rfl) (.inl ⟨_,rfl⟩) (.inr ⟨rfl,rfl⟩) e63) ?_;refine oA 9 (z17 t61) ?_;refine oV [(0,t0),(1,t1),(6,t6_30),(7,.int .i64 t58),(8,.int .i64 t8),(9,z17 t61),(11,(z6 h_38)),(12,.bool t32)] (n62 ?_);refine oG fun n64=>W.r ?_;refine oA 62 (.bool t32) ?_;refine oV [(0,t0),(1,t1),(6,t6_30),(7,.int .i64 t58),(8,.int .i64 t8),(9,z17 t61),(11,(z6 h_38)),(62,.bool t32)] (n64 ?_);obtain⟨k65,e65,hF⟩:=z9 hF
          have J65:∀(t6_66:AV) (h_67:AHeap),k65 t6_66 h_67=some (rR,hR)→Go w0 m0 (Func.ntmps Tryd.f22) (K36 .normal) [(0,t0),(1,t1),(6,t6_66),(7,.int .i64 t58),(8,.int .i64 t8),(9,z17 t61)] [] h_67:=by
           intro t6_66 h_67 hF;rw[e65] at hF;refine n36 (n29 ?_);exact gW _ (ih29 _ _ _ _ hF)
          cases t32 with
          |true=>
           refine oT hF fun hF=>?_;refine W.r ?_;refine oA 63 t6_30 ?_;refine oR 64 26 hF fun t64 hF=>?_;refine oA 65 (.int .i64 t58) ?_;obtain⟨t66,e69,hF⟩:=z3 hF;refine WL.val (d:=(some 66)) (v:=.agg t66) (h':=h_56) (by kernel_rfl) (by kernel_rfl) (z1e7 (by kernel_rfl) e69) ?_;refine oK 67 hF fun v67 h_70 hF=>?_;refine oK 68 hF fun v68 h_72 hF=>?_;refine oA 6 v68 ?_;refine oV [(0,t0),(1,t1),(6,v68),(7,.int .i64 t58),(8,.int .i64 t8),(9,z17 t61)] ?_;exact gW _ (J65 _ _ hF)
          |false=>
           refine oU hF fun hF=>?_;refine oZ ?_;exact gW _ (J65 _ _ hF)
        cases t40 with
        |true=>
         replace hF:=ze3 hF
         refine WL.o (some 42) ?_;refine WL.o (some 43) ?_;refine WL.o (some 44) ?_;refine WL.o (some 45) ?_;refine WL.o (some 46) ?_;refine WL.o (some 47) ?_;refine WL.o (some 48) ?_;refine WL.o (some 49) ?_;refine WL.o (some 50) ?_;refine WL.o (some 51) ?_;refine WL.o (some 52) ?_;refine WL.o (some 53) ?_;refine WL.o (some 54) ?_;refine oA 55 (.bool true) ?_;exact lW _ (J58 _ _ hF)
        |false=>
         replace hF:=ze4 hF
         refine oA 42 (.bool t32) ?_;refine oB 43 hF fun t43 hF=>?_;refine oA 44 (.bool t43) ?_;obtain⟨j54,e76,hF⟩:=z9 hF
         have J77:∀(t54:Bool) (h_75:AHeap),j54 t54 h_75=some (rR,hR)→WL Tryd.prog w0 m0 (Func.ntmps Tryd.f22) (Code.ops (y4 (y4 (y3 (y4 (y3 (y4 (y4 (y3 (y4 (y4 (y3 (y4 (y4 (y3 (y4 (y3 (y3 (y3 (z72 Tryd.f22)))))))))))))))))))) 22 K51 [(0,t0),(1,t1),(6,t6_30),(7,.int .i64 t7_31),(8,.int .i64 t8),(9,z17 t9),(10,.int .i64 t30),(11,(z6 h_38)),(12,.bool t32),(41,.bool false),(54,.bool t54)] [] h_75:=by
          intro t54 h_75 hF;rw[e76] at hF;refine oA 55 (.bool t54) ?_;exact lW _ (J58 _ _ hF)
         cases t43 with
         |true=>
          replace hF:=ze3 hF
          refine oA 45 (.int .i64 t30) ?_;refine oA 46 (z17 t9) ?_;refine oA 47 (.int .i64 (z101 t9)) ?_;refine oB 48 hF fun t48 hF=>?_;refine oA 49 (.bool t48) ?_;obtain⟨j53,e80,hF⟩:=z9 hF
          have J81:∀(t53:Bool) (h_79:AHeap),j53 t53 h_79=some (rR,hR)→WL Tryd.prog w0 m0 (Func.ntmps Tryd.f22) (Code.ops (y4 (y4 (y3 (y4 (y3 (y4 (y4 (y3 (y4 (y4 (y3 (y4 (y4 (y3 (y4 (y3 (y3 (y3 (z72 Tryd.f22)))))))))))))))))))) 21 K51 [(0,t0),(1,t1),(6,t6_30),(7,.int .i64 t7_31),(8,.int .i64 t8),(9,z17 t9),(10,.int .i64 t30),(11,(z6 h_38)),(12,.bool t32),(41,.bool false),(44,.bool true),(53,.bool t53)] [] h_79:=by
           intro t53 h_79 hF;rw[e80] at hF;refine oA 54 (.bool t53) ?_;exact lW _ (J77 _ _ hF)
          cases t48 with
          |true=>
           replace hF:=ze3 hF
           refine WL.o (some 50) ?_;refine WL.o (some 51) ?_;refine WL.o (some 52) ?_;refine oA 53 (.bool true) ?_;exact lW _ (J81 _ _ hF)
          |false=>
           replace hF:=ze4 hF
           refine oR 50 26 hF fun t50 hF=>?_;refine oA 51 (.agg ([.int .i64 0,.int .i64 0,.int .i64 0]:List AV)) ?_;obtain⟨t52,e83,hF⟩:=z3 hF;obtain⟨t52_84,e85,hF⟩:=z9 hF;refine WL.val (d:=(some 52)) (v:=.bool t52_84) (h':=h_53) (by kernel_rfl) (by kernel_rfl) (zf8 AV.bool e85 (Eq.trans (by kernel_rfl) (z2b6 (P:=Tryd.prog) (h:=h_53) (t:=26) (lit:=false) (by kernel_rfl) e83))) ?_;refine oA 53 (.bool t52_84) ?_;exact lW _ (J81 _ _ hF)
         |false=>
          replace hF:=ze4 hF
          refine WL.o (some 45) ?_;refine WL.o (some 46) ?_;refine WL.o (some 47) ?_;refine WL.o (some 48) ?_;refine WL.o (some 49) ?_;refine WL.o (some 50) ?_;refine WL.o (some 51) ?_;refine WL.o (some 52) ?_;refine WL.o (some 53) ?_;refine oA 54 (.bool false) ?_;exact lW _ (J77 _ _ hF)
       cases t34 with
       |true=>
        replace hF:=ze3 hF
        refine WL.o (some 36) ?_;refine WL.o (some 37) ?_;refine WL.o (some 38) ?_;refine WL.o (some 39) ?_;refine oA 40 (.bool true) ?_;exact lW _ (J55 _ _ hF)
       |false=>
        replace hF:=ze4 hF
        refine oA 36 (.int .i64 t30) ?_;refine oA 37 (z17 t9) ?_;refine oA 38 (.int .i64 (z101 t9)) ?_;refine oB 39 hF fun t39 hF=>?_;refine oA 40 (.bool t39) ?_;exact lW _ (J55 _ _ hF)
      |false=>
       refine oU hF fun hF=>?_;refine W.exit (by kernel_rfl) ?_;refine e33 (e29 ?_);refine s23 (by kernel_rfl) ?_;exact gW _ (J24 _ _ _ hF)
    exact gW _ (L29 _ _ _ _ _ hF)
   |false=>
    refine oU hF fun hF=>?_;refine W.exit (by kernel_rfl) ?_;refine e13 (e10 ?_);refine s6 (by kernel_rfl) ?_;exact gW _ (J7 _ _ hF)
 exact gW _ (L10 _ _ _ _ _ hF)
noncomputable def z166(t0:AV)(t1:AV)(k11:AHeap→R)(self:Int→AHeap→R)(t5:Int)(h_15:AHeap):R:=obind (z187 t0) fun t13=>lett (decide (t5<t13)) fun (t14:Bool)=>ifB t14 (obind (z1a8 4 t0 t5) fun t19=>obind (z16 h_15 4 t19) fun t20=>obind (z1a8 4 t1 t5) fun t23=>obind (z16 h_15 4 t23) fun t24=>obind (zc3 Tryd.prog 82 (.agg t20) (.agg t24)) fun t25=>lett (!t25) fun (t25_28:Bool)=>ifB t25_28 (some (.ret (.bool false),h_15)) (lett (IntKind.i64.wrap (t5+1)) fun (t16:Int)=>self t16 h_15)) (k11 h_15)
noncomputable def z13b(t0:AV)(t1:AV)(k11:AHeap→R):Nat→Int→AHeap→R:=ze9 (fun _ _=>none) (z166 t0 t1 k11)
theorem z2bd(t0:AV)(t1:AV)(k11:AHeap→R)(m:Nat):z13b t0 t1 k11 (m+1)=z166 t0 t1 k11 (z13b t0 t1 k11 m):=rfl
noncomputable def z310(_:zc)(n:Nat)(t0:AV)(t1:AV)(h:AHeap):R:=obind (z187 t0) fun t7=>obind (z187 t1) fun t9=>lett ((t7:Int) != t9) fun (t10:Bool)=>ifB t10 (some (.ret (.bool false),h)) (lett (fun (h_12:AHeap)=>some (.ret (.bool true),h_12)) fun k11=>z13b t0 t1 k11 n 0 h)
set_option maxHeartbeats 4000000 in
set_option maxRecDepth 20000 in
theorem law11_same_ok{call:zc}(hc:SaysAll Tryd.prog call){n:Nat}{t0:AV}{t1:AV}{h:AHeap}{rR:ARes}{hR:AHeap}(hF:z310 call n t0 t1 h=some (rR,hR)):Says Tryd.prog 23 [t0,t1] h rR hR:=by
 unfold z310 at hF;refine sO Tryd.func23 fun w0 m0=>?_;refine wW [(0,t0),(1,t1)] ?_;refine oG fun n1=>W.r ?_;refine oA 4 (.bool false) ?_;refine oV [(0,t0),(1,t1)] (n1 ?_);refine oH fun n2 q2=>?_;refine oG fun n3=>W.r ?_;refine oA 6 t0 ?_;refine oM 7 42 82 hF fun t7 hF=>?_;refine oA 8 t1 ?_;refine oM 9 42 82 hF fun t9 hF=>?_;refine oB 10 hF fun t10 hF=>?_;refine oV [(0,t0),(1,t1),(10,.bool t10)] (n3 ?_)
 cases t10 with
 |true=>
  refine oT hF fun hF=>?_;refine oG fun n7=>W.r ?_;refine oA 4 (.bool false) ?_;refine oV [(4,.bool false)] (n7 (oY (q2 ?_)));exact lZ hF [.tmp 4] [.bool false] (rT zd)
 |false=>
  refine oU hF fun hF=>?_;refine oZ (n2 ?_);refine W.s (fun K8 n8 e8 q8 p8=>?_);refine oG fun n9=>W.r ?_;refine oA 5 (.int .i64 0) ?_;refine oV [(0,t0),(1,t1),(5,.int .i64 0)] (n9 ?_);obtain⟨k11,e11,hF⟩:=z9 hF
  have J11:∀(h_12:AHeap),k11 h_12=some (rR,hR)→Go w0 m0 (Func.ntmps Tryd.f23) (K8 .normal) [] [] h_12:=by
   intro h_12 hF;rw[e11] at hF;refine n8 ?_;refine oG fun n13=>W.r ?_;refine oA 4 (.bool true) ?_;refine oV [(4,.bool true)] (n13 (oY ?_));exact lZ hF [.tmp 4] [.bool true] (rT zd)
  refine yc (by kernel_rfl) (fun K10 n10 s10 o10 q10 p10=>?_);refine y15 (by kernel_rfl) (fun I14 K14 b14 n14 e14 q14 p14=>?_)
  have L14:∀(m:Nat) (t5:Int) (h_15:AHeap),z13b t0 t1 k11 m t5 h_15=some (rR,hR)→Go w0 m0 (Func.ntmps Tryd.f23) I14 [(0,t0),(1,t1),(5,.int .i64 t5)] [] h_15:=by
   intro m
   induction m with
   |zero=>intro t5 h_15 hF;cases hF
   |succ m ih14=>
    intro t5 h_15 hF;rw[z2bd] at hF;unfold z166 at hF;refine b14 ?_;refine W.s (fun K16 n16 e16 q16 p16=>?_);refine oG fun n17=>W.r ?_;refine oA 11 (.int .i64 t5) ?_;refine oA 12 t0 ?_;refine oM 13 42 82 hF fun t13 hF=>?_;refine oB 14 hF fun t14 hF=>?_;refine oV [(0,t0),(1,t1),(5,.int .i64 t5),(14,.bool t14)] (n17 ?_)
    cases t14 with
    |true=>
     refine oT hF fun hF=>?_;refine oZ (n16 ?_);refine oH fun n20 q20=>?_;refine yc (by kernel_rfl) (fun K21 n21 s21 o21 q21 p21=>?_);refine oG fun n22=>?_;refine y21 (by kernel_rfl) (hc.ok w0) (plan:=[0,1,2,3,4,5,6,7,8]) (by kernel_rfl) (by kernel_rfl) (by kernel_rfl) ?_;refine WD.a 0 (some 17) t0 h_15 ?_;refine WD.a 0 (some 18) (.int .i64 t5) h_15 ?_;obtain⟨t19,e23,hF⟩:=z3 hF;refine WD.b 0 (some 19) t19 h_15 (z173 (P:=Tryd.prog) (h:=h_15) (t:=42) (e':=82) (k:=.i64) (by kernel_rfl) (by kernel_rfl) (by kernel_rfl) e23) ?_;obtain⟨t20,e24,hF⟩:=z3 hF;refine WD.b 1 (some 20) (.agg t20) h_15 (zb0 (P:=Tryd.prog) (h:=h_15) (t:=82) (by kernel_rfl) (by kernel_rfl) e24) ?_;refine WD.a 0 (some 21) t1 h_15 ?_;refine WD.a 0 (some 22) (.int .i64 t5) h_15 ?_;obtain⟨t23,e25,hF⟩:=z3 hF;refine WD.b 0 (some 23) t23 h_15 (z173 (P:=Tryd.prog) (h:=h_15) (t:=42) (e':=82) (k:=.i64) (by kernel_rfl) (by kernel_rfl) (by kernel_rfl) e25) ?_;obtain⟨t24,e26,hF⟩:=z3 hF;refine WD.b 1 (some 24) (.agg t24) h_15 (zb0 (P:=Tryd.prog) (h:=h_15) (t:=82) (by kernel_rfl) (by kernel_rfl) e26) ?_;obtain⟨t25,e27,hF⟩:=z3 hF;obtain⟨t25_28,e29,hF⟩:=z9 hF;refine WD.val (d:=(some 25)) (v:=.bool t25_28) (h':=h_15) (by kernel_rfl) (by kernel_rfl) (zf8 AV.bool e29 (Eq.trans (by kernel_rfl) (z2b6 (P:=Tryd.prog) (h:=h_15) (t:=82) (lit:=false) (by kernel_rfl) e27))) (k:=0) (by kernel_rfl) (fun e=>absurd e (by decide)) (by decide) ?_;refine WD.nil ?_;refine gW [(0,t0),(1,t1),(5,.int .i64 t5),(25,.bool t25_28)] (n22 ?_)
     cases t25_28 with
     |true=>
      refine oT hF fun hF=>?_;refine oG fun n30=>W.r ?_;refine oA 4 (.bool false) ?_;refine oV [(4,.bool false)] (n30 (oY (q21 (q20 (q14 (q10 (q8 ?_)))))));exact lZ hF [.tmp 4] [.bool false] (rT zd)
     |false=>
      refine oU hF fun hF=>?_;refine oZ (n21 (n20 (W.r ?_)));refine oA 15 (.int .i64 t5) ?_;refine oI 16 .i64 hF fun t16 hF=>?_;refine oA 5 (.int .i64 t16) ?_;refine oV [(0,t0),(1,t1),(5,.int .i64 t16)] (n14 ?_);exact gW _ (ih14 _ _ hF)
    |false=>
     refine oU hF fun hF=>?_;refine W.exit (by kernel_rfl) ?_;refine e16 (e14 ?_);refine s10 (by kernel_rfl) ?_;exact gW _ (J11 _ hF)
  exact gW _ (L14 _ _ _ hF)
noncomputable def z188(t0:AV)(t1:Int)(k6:Int→AHeap→R)(self:Int→Int→AHeap→R)(t5_10:Int)(t6:Int)(h_11:AHeap):R:=obind (z187 t0) fun t9=>lett (decide (t6<t9)) fun (t10:Bool)=>lett (fun (t15:Bool) (h_16:AHeap)=>ifB t15 (obind (z1a8 1 t0 t6) fun t21=>obind (z7 h_16 t21) fun v22=>obind (z190 v22) fun t22=>lett (IntKind.i64.wrap (t5_10+(z101 t22))) fun (t24:Int)=>lett (IntKind.i64.wrap (t6+1)) fun (t17:Int)=>self t24 t17 h_16) (k6 t5_10 h_16)) fun j15=>ifB t10 (lett (decide (t5_10≤t1)) fun (t14:Bool)=>j15 t14 h_11) (j15 false h_11)
noncomputable def z15a(t0:AV)(t1:Int)(k6:Int→AHeap→R):Nat→Int→Int→AHeap→R:=ze9 (fun _ _ _=>none) (z188 t0 t1 k6)
theorem z2e9(t0:AV)(t1:Int)(k6:Int→AHeap→R)(m:Nat):z15a t0 t1 k6 (m+1)=z188 t0 t1 k6 (z15a t0 t1 k6 m):=rfl
noncomputable def z391(_:zc)(n:Nat)(t0:AV)(t1:Int)(h:AHeap):R:=lett (fun (t5:Int) (h_7:AHeap)=>some (.ret (.int .i64 t5),h_7)) fun k6=>z15a t0 t1 k6 n 0 0 h
set_option maxHeartbeats 4000000 in
set_option maxRecDepth 20000 in
theorem law11_sum_ok{call:zc}(_:SaysAll Tryd.prog call){n:Nat}{t0:AV}{t1:Int}{h:AHeap}{rR:ARes}{hR:AHeap}(hF:z391 call n t0 t1 h=some (rR,hR)):Says Tryd.prog 18 [t0,.int .i64 t1] h rR hR:=by
 unfold z391 at hF;refine sO Tryd.func18 fun w0 m0=>?_;refine wW [(0,t0),(1,.int .i64 t1)] ?_;refine oG fun n1=>W.r ?_;refine oA 4 (.int .i64 0) ?_;refine oV [(0,t0),(1,.int .i64 t1)] (n1 ?_);refine oG fun n2=>W.r ?_;refine oA 5 (.int .i64 0) ?_;refine oV [(0,t0),(1,.int .i64 t1),(5,.int .i64 0)] (n2 ?_);refine W.s (fun K3 n3 e3 q3 p3=>?_);refine oG fun n4=>W.r ?_;refine oA 6 (.int .i64 0) ?_;refine oV [(0,t0),(1,.int .i64 t1),(5,.int .i64 0),(6,.int .i64 0)] (n4 ?_);obtain⟨k6,e6,hF⟩:=z9 hF
 have J6:∀(t5:Int) (h_7:AHeap),k6 t5 h_7=some (rR,hR)→Go w0 m0 (Func.ntmps Tryd.f18) (K3 .normal) [(5,.int .i64 t5)] [] h_7:=by
  intro t5 h_7 hF;rw[e6] at hF;refine n3 ?_;refine oG fun n8=>W.r ?_;refine oA 25 (.int .i64 t5) ?_;refine oA 4 (.int .i64 t5) ?_;refine oV [(4,.int .i64 t5)] (n8 (oY ?_));exact lZ hF [.tmp 4] [.int .i64 t5] (rT zd)
 refine yc (by kernel_rfl) (fun K5 n5 s5 o5 q5 p5=>?_);refine y15 (by kernel_rfl) (fun I9 K9 b9 n9 e9 q9 p9=>?_)
 have L9:∀(m:Nat) (t5_10:Int) (t6:Int) (h_11:AHeap),z15a t0 t1 k6 m t5_10 t6 h_11=some (rR,hR)→Go w0 m0 (Func.ntmps Tryd.f18) I9 [(0,t0),(1,.int .i64 t1),(5,.int .i64 t5_10),(6,.int .i64 t6)] [] h_11:=by
  intro m
  induction m with
  |zero=>intro t5_10 t6 h_11 hF;cases hF
  |succ m ih9=>
   intro t5_10 t6 h_11 hF;rw[z2e9] at hF;unfold z188 at hF;refine b9 ?_;refine W.s (fun K12 n12 e12 q12 p12=>?_);refine W.s (fun K13 n13 e13 q13 p13=>?_);refine W.r ?_;refine oA 7 (.int .i64 t6) ?_;refine oA 8 t0 ?_;refine oM 9 30 9 hF fun t9 hF=>?_;refine oB 10 hF fun t10 hF=>?_;refine oA 11 (.bool t10) ?_;obtain⟨j15,e17,hF⟩:=z9 hF
   have J18:∀(t15:Bool) (h_16:AHeap),j15 t15 h_16=some (rR,hR)→WL Tryd.prog w0 m0 (Func.ntmps Tryd.f18) (Code.ops (y4 (y4 (y4 (y4 (y3 (y4 (y3 (y3 (z72 Tryd.f18)))))))))) 9 K13 [(0,t0),(1,.int .i64 t1),(5,.int .i64 t5_10),(6,.int .i64 t6),(15,.bool t15)] [] h_16:=by
    intro t15 h_16 hF;rw[e17] at hF;refine oV [(0,t0),(1,.int .i64 t1),(5,.int .i64 t5_10),(6,.int .i64 t6),(15,.bool t15)] (n13 ?_)
    cases t15 with
    |true=>
     refine oT hF fun hF=>?_;refine oZ (n12 ?_);refine oG fun n19=>?_;refine yc (by kernel_rfl) (fun K20 n20 s20 o20 q20 p20=>?_);refine W.r ?_;refine oA 18 (.int .i64 t5_10) ?_;refine oA 19 t0 ?_;refine oA 20 (.int .i64 t6) ?_;refine oP 21 30 9 .i64 hF fun t21 hF=>?_;refine oLs 22 9 hF fun t22 hF=>?_;refine oA 23 (.int .i64 (z101 t22)) ?_;refine oI 24 .i64 hF fun t24 hF=>?_;refine oA 5 (.int .i64 t24) ?_;refine oV [(0,t0),(1,.int .i64 t1),(5,.int .i64 t24),(6,.int .i64 t6)] (n20 (n19 (W.r ?_)));refine oA 16 (.int .i64 t6) ?_;refine oI 17 .i64 hF fun t17 hF=>?_;refine oA 6 (.int .i64 t17) ?_;refine oV [(0,t0),(1,.int .i64 t1),(5,.int .i64 t24),(6,.int .i64 t17)] (n9 ?_);exact gW _ (ih9 _ _ _ hF)
    |false=>
     refine oU hF fun hF=>?_;refine W.exit (by kernel_rfl) ?_;refine e12 (e9 ?_);refine s5 (by kernel_rfl) ?_;exact gW _ (J6 _ _ hF)
   cases t10 with
   |true=>
    replace hF:=ze3 hF
    refine oA 12 (.int .i64 t5_10) ?_;refine oA 13 (.int .i64 t1) ?_;refine oB 14 hF fun t14 hF=>?_;refine oA 15 (.bool t14) ?_;exact lW _ (J18 _ _ hF)
   |false=>
    replace hF:=ze4 hF
    refine WL.o (some 12) ?_;refine WL.o (some 13) ?_;refine WL.o (some 14) ?_;refine oA 15 (.bool false) ?_;exact lW _ (J18 _ _ hF)
 exact gW _ (L9 _ _ _ _ hF)
def z1f2(m:MS)(c:UInt8):Option (Nat×Int×Nat)×MS:=match (z3e c.toNat (atM (z44 m c)) (z44 m c).1).1 with
 |some z=>(some (z.1,(z.2:Int) - ((z44 m c).2.2:Int),(z44 m c).2.1.length),((z3e c.toNat (atM (z44 m c)) (z44 m c).1).2.map z26d,[],0))
 |none=>(none,((z3e c.toNat (atM (z44 m c)) (z44 m c).1).2,(z44 m c).2.1,(z44 m c).2.2))
abbrev FoundT:=(Nat×Int×Nat)×Nat
def runM:MS→Bytes→Nat→List FoundT×MS
 |m,[],_=>([],m)
 |m,c::s,at_=>match (z1f2 m c).1 with
  |some z=>((z,at_+1)::(runM (z1f2 m c).2 s (at_+1)).1,(runM (z1f2 m c).2 s (at_+1)).2)
  |none=>runM (z1f2 m c).2 s (at_+1)
theorem z45a(m:MS)(c:UInt8)(s:Bytes)(i:Nat):z127 m (c::s) i=match (z1f2 m c).1 with
  |some z=>(i+1,some z,(z1f2 m c).2)
  |none=>z127 (z1f2 m c).2 s (i+1):=by
 rw[z127];unfold z1f2
 cases(z3e c.toNat (atM (z44 m c)) (z44 m c).1).1<;>rfl
set_option maxRecDepth 100000 in
theorem z493{N:Nat}{h:AHeap}:∀{ls:List (List AV)},(∀li∈ls,Plain Tryd.prog N h 11 TPat li)→∃ps:List (Int×Bytes),ls=ps.map z413∧∀p∈ps,p.2.length≤reachBytes
 |[],_=>⟨[],rfl,fun _ h=>nomatch h⟩
 |l::ls,hp=>by
  obtain⟨ps,rfl,h2⟩:=z493 (fun li hl=>hp li (List.mem_cons_of_mem _ hl));obtain⟨y1,y2,rfl,p1,p2⟩:=(hp l List.mem_cons_self).struct2 Tryd.underlying51;obtain⟨k,rfl,_⟩:=p1.int Tryd.underlying3;obtain⟨u,rfl,hu⟩:=p2.str Tryd.underlying9;refine⟨(k,u)::ps,rfl,fun p hp=>?_⟩
  rcases List.mem_cons.1 hp with rfl|hp
  ·exact hu
  ·exact h2 p hp
set_option maxRecDepth 100000 in
theorem args_pats{N:Nat}{h:AHeap}{x:AV}(hp:ArgP Tryd.prog N h 12 22 x):∃ps:List (Int×Bytes),Slc N h 2 x (ps.map z413)∧ps.length<1000000000000000000:=by
 obtain⟨ls,h1,h2,h3⟩:=hp.slice Tryd.underlying22;obtain⟨ps,rfl,_⟩:=z493 h3;have hc:Tryd.prog.cellsOf TPat=2:=by kernel_rfl
 have hb:Tryd.prog.bytesOf TPat=24:=by kernel_rfl
 have hr:reachBytes<1000000000000000000:=by decide
 rw[List.length_map,hb] at h2;rw[hc] at h1;exact⟨ps,h1,by omega⟩
set_option maxRecDepth 100000 in
abbrev tzI64:List Int:=[0,1,56,2,57,49,28,3,61,58,42,50,38,29,17,4,62,47,59,36,45,43,51,22,53,39,33,30,24,18,12,5,63,55,48,27,60,41,37,16,46,35,44,21,52,32,23,11,54,26,40,15,34,20,31,10,25,14,19,9,13,8,7,6]
set_option maxRecDepth 100000 in
theorem tzC_ints:tzC=tzI64.map fun z=>AV.int .u8 z:=by kernel_rfl
set_option maxRecDepth 100000 in
noncomputable def tzG:Tabs:=[(0,tzI64.map fun z=>AV.int .u8 z)]
set_option maxRecDepth 100000 in
theorem tz_of{h:AHeap}{X:List Nat}{G:Nat}(hG:0<G)(k:Keeps (z262 tzG X G) h):HasTz h:=
 ⟨k.2.2 _ _ (by show (z242 tzG).get _=_;unfold tzG z242;rw[y1c,tzC_ints]),Nat.lt_of_lt_of_le hG k.1⟩
theorem Slc.stay{N:Nat}{h h':AHeap}{sz:Nat}{v:AV}{ls:List (List AV)}(k:Slc N h sz v ls)(t:Tch [] h h')(hN:N≤h.next):Slc h'.next h' sz v ls:=k.keep (Nat.le_trans hN t.1) fun b o hb ho=>by rw[t.2.2 b (Nat.lt_of_lt_of_le hb hN) (by simp)];exact ho
theorem feed_one(m:MS)(c:UInt8):z127 m [c] 0=(1,(z1f2 m c).1,(z1f2 m c).2):=by
 rw[z45a];cases hz:(z1f2 m c).1 with
 |some z=>rfl
 |none=>rfl
theorem z36e(c i:Nat):∀A:List z2f4,(z3e c i A).2.map z26d=A.map z26d
 |[]=>rfl
 |a::A=>by
  rw[z3e]
  split
  ·rfl
  ·rw [List.map_cons, List.map_cons, z36e c i A]
   rfl
section
variable {N:Nt}{s r:Bytes}{f g i t:Nat}
theorem z336(hi:i≤s.length):z2ff (s++r) f i=z2ff s f i:=by
 unfold z2ff
 by_cases hf:f≤s.length
 ·rw[List.drop_append_of_le_length hf,List.take_append_of_le_length (by rw[List.length_drop];omega)]
 ·rw[show i - f=0 by omega,List.take_zero,List.take_zero]
theorem z485:z2ff (s.drop g) f t=z2ff s (g+f) (g+t):=by
 unfold z2ff;rw[List.drop_drop,show g+t - (g+f)=t - f by omega]
theorem ways_app(hi:i≤s.length):zb2 N (s++r) g i=zb2 N s g i:=by
 unfold zb2 z407
 congr 2
 funext f
 rw[z336 hi]
theorem z3c0(h:g<i):(zb2 N s g i).dropWhile (fun x=>decide (x.2<g+1))=zb2 N s (g+1) i:=by
 have e:zb2 N s g i=(if (!z176 N (z407 N s g i))=true then [(z407 N s g i,g)] else [])++zb2 N s (g+1) i:=by
  unfold zb2;rw[show i - g=(i - (g+1))+1 by omega,List.range'_succ,List.map_cons,List.filter_cons]
  split<;>rfl
 have hs:∀l:List WayW,(∀x∈l,g+1≤x.2)→l.dropWhile (fun x=>decide (x.2<g+1))=l:=by
  intro l hl
  cases l with
  |nil=>rfl
  |cons x l=>
   have:=hl x List.mem_cons_self;rw[List.dropWhile_cons,if_neg (by rw[decide_eq_true_eq];omega)]
 have h2:∀x∈zb2 N s (g+1) i,g+1≤x.2:=by
  intro x hx;have:=(List.mem_filter.1 hx).1;obtain⟨f,hf,rfl⟩:=List.mem_map.1 this;exact(List.mem_range'_1.1 hf).1
 rw[e]
 split
 ·rw[List.singleton_append,List.dropWhile_cons,if_pos (decide_eq_true (Nat.lt_succ_self g)),hs _ h2]
 ·rw[List.nil_append,hs _ h2]
theorem find_drop(h:g≤t):z285 N (s.drop g) 0 (t - g)=(z285 N s g t).map fun f=>f - g:=by
 unfold z285;have e:List.range' g (t - g)=(List.range' 0 (t - g)).map fun x=>g+x:=by rw[List.map_add_range'];rfl
 rw[e,List.find?_map,Option.map_map,Nat.sub_zero]
 have e2:(fun f=>z26a N (z2ff (s.drop g) f (t - g)))=((fun f=>z26a N (z2ff s f t)) ∘ fun x=>g+x):=by
  funext f
  show z26a N (z2ff (s.drop g) f (t - g))=z26a N (z2ff s (g+f) t);rw[z485,show g+(t - g)=t by omega]
 rw[e2]
 have e3:((fun f=>f - g) ∘ fun x=>g+x)=fun x=>x:=by
  funext x
  show g+x - g=x;omega
 rw[e3,Option.map_id']
theorem z34b(h:g≤t):∀Ns:List Nt,z113 (s.drop g) 0 (t - g) Ns=(z113 s g t Ns).map fun z=>(z.1,z.2 - g)
 |[]=>rfl
 |N::Ns=>by
  rw[z113,z113,find_drop h,z34b h Ns]
  cases z285 N s g t with
  |some f=>rfl
  |none=>
   show Option.map _ (Option.map _ _)=Option.map _ (Option.map _ _);rw[Option.map_map,Option.map_map];rfl
theorem hit_ge:∀(Ns:List Nt) (z:Nat×Nat),z113 s g t Ns=some z→g≤z.2
 |[],z,h=>by cases h
 |N::Ns,z,h=>by
  rw[z113] at h;cases hf:z285 N s g t with
  |some f=>
   rw[hf] at h;cases h;exact(List.mem_range'_1.1 (List.mem_of_find?_eq_some hf)).1
  |none=>
   rw[hf] at h;cases hh:z113 s g t Ns with
   |none=>rw[hh] at h;cases h
   |some w=>
    rw[hh] at h;cases h;exact hit_ge Ns w hh
theorem z28d:∀Ns:List Nt,z113 s g t Ns=none↔∀N∈Ns,∀f,g≤f→f<t→z26a N (z2ff s f t)=false
 |[]=>⟨(fun _ _ h=>nomatch h),fun _=>rfl⟩
 |N::Ns=>by
  have hf:z285 N s g t=none↔∀f,g≤f→f<t→z26a N (z2ff s f t)=false:=by
   unfold z285;rw[List.find?_eq_none];constructor
   ·intro h f h1 h2
    have:=h f (List.mem_range'_1.2 (by omega))
    simpa using this
   ·intro h f hf hm
    have:=List.mem_range'_1.1 hf;rw[h f (by omega) (by omega)] at hm;cases hm
  rw[z113];constructor
  ·intro h
   cases hh:z285 N s g t with
   |some f=>rw[hh] at h;cases h
   |none=>
    rw[hh] at h
    have h2:z113 s g t Ns=none:=by
     cases h3:z113 s g t Ns with
     |none=>rfl
     |some w=>rw[h3] at h;cases h
    intro M hM
    rcases List.mem_cons.1 hM with rfl|hM
    ·exact hf.1 hh
    ·exact(z28d Ns).1 h2 M hM
  ·intro h
   rw[hf.2 (h N List.mem_cons_self),(z28d Ns).2 fun M hM=>h M (List.mem_cons_of_mem _ hM)];rfl
theorem z31a(Ns:List Nt):∀(k t:Nat),(∀j,t≤j→j<t+k→z113 s 0 j Ns=none)→z1c2 Ns s (k+1) t=(z113 s 0 (t+k) Ns).map fun z=>(z.1,z.2,t+k)
 |0,t,_=>by
  rw[z1c2,Nat.add_zero];cases z113 s 0 t Ns<;>rfl
 |k+1,t,h=>by
  rw[z1c2,h t (Nat.le_refl _) (by omega)];have:=z31a Ns k (t+1) fun j h1 h2=>h j (by omega) (by omega);rw[show t+1+k=t+(k+1) by omega] at this;exact this
end
def gOf(k:Nat):Nat:=k - 256
def NoHit(Ns:List Nt)(s:Bytes):Prop:=∀t,t≤s.length→∀N∈Ns,∀f,gOf t≤f→f<t→z26a N (z2ff s f t)=false
def z2dc(Ns:List Nt)(s:Bytes):MS:=(z16b Ns s (gOf s.length) s.length,s.drop (gOf s.length),gOf s.length)
section
variable {Ns:List Nt}{s:Bytes}{c:UInt8}
theorem z402:z44 (z2dc Ns s) c=(z16b Ns (s++[c]) (gOf (s.length+1)) s.length,(s++[c]).drop (gOf (s.length+1)),gOf (s.length+1)):=by
 have ha:∀g,z16b Ns (s++[c]) g s.length=z16b Ns s g s.length:=fun g=>by
  unfold z16b
  congr 1
  funext N
  rw[ways_app (Nat.le_refl _)]
 have hl:(s.drop (gOf s.length)).length=s.length - gOf s.length:=List.length_drop;rw[ha];unfold z44 z2dc;dsimp only
 by_cases h:(s.drop (gOf s.length)).length <256
 ·have k1 : ∀ g A, z397 (s.drop (gOf s.length)) g A = A := fun g A => if_pos h
  have k2:z1be (s.drop (gOf s.length)) c=s.drop (gOf s.length)++[c]:=if_pos h;have k3:∀g,z112 (s.drop (gOf s.length)) g=g:=fun g=>if_pos h;rw[k1,k2,k3]
  have h1:s.length<256:=by
   unfold gOf at hl h;omega
  have e1:gOf s.length=0:=by unfold gOf;omega
  have e2:gOf (s.length+1)=0:=by unfold gOf;omega
  rw[e1,e2];rfl
 ·have k1 : ∀ g A, z397 (s.drop (gOf s.length)) g A = A.map (z2c5 (g + 1)) := fun g A => if_neg h
  have k2:z1be (s.drop (gOf s.length)) c=(s.drop (gOf s.length)).drop 1++[c]:=if_neg h;have k3:∀g,z112 (s.drop (gOf s.length)) g=g+1:=fun g=>if_neg h;rw[k1,k2,k3]
  have h1:256≤s.length:=by
   unfold gOf at hl h;omega
  have e2:gOf (s.length+1)=gOf s.length+1:=by unfold gOf;omega
  have h3:gOf s.length+1≤s.length:=by unfold gOf;omega
  have key:(z16b Ns s (gOf s.length) s.length).map (z2c5 (gOf s.length+1))=z16b Ns s (gOf s.length+1) s.length:=by
   unfold z16b;rw[List.map_map];refine List.map_congr_left fun N _=>?_
   generalize gOf s.length=g at h3 ⊢
   show (N,(zb2 N s g s.length).dropWhile fun x=>decide (x.2<g+1))=(N,zb2 N s (g+1) s.length);rw[z3c0 (by omega)]
  rw[key,e2,List.drop_drop,List.drop_append_of_le_length h3]
theorem gOf_zero:gOf 0=0:=by
 unfold gOf;omega
theorem z3bf:z2dc Ns []=(Ns.map fun N=>(N,[]),[],0):=by
 unfold z2dc z16b;rw[List.length_nil,gOf_zero];rfl
theorem win_step:z1f2 (z2dc Ns s) c=match z113 (s++[c]) (gOf (s.length+1)) (s.length+1) Ns with
  |some z=>(some (z.1,(z.2:Int) - (gOf (s.length+1):Int),(s.length+1) - gOf (s.length+1)),z2dc Ns [])
  |none=>(none,z2dc Ns (s++[c])):=by
 have hl:(s++[c]).length=s.length+1:=by rw[List.length_append,List.length_singleton]
 have hg:gOf (s.length+1)≤s.length:=by unfold gOf;omega
 have hi:s.length<(s++[c]).length:=by omega
 have hc:(s++[c])[s.length]=c:=by simp
 have hd:((s++[c]).drop (gOf (s.length+1))).length=s.length+1 - gOf (s.length+1):=by rw[List.length_drop,hl]
 have hat:atM (z44 (z2dc Ns s) c)=s.length:=by
  rw[z402];unfold atM;dsimp only;rw[hd];omega
 obtain⟨h1,h2⟩:=z29d hg hi Ns;rw[hc] at h1 h2;unfold z1f2;rw[hat,z402];dsimp only;rw[h1];cases hz:z113 (s++[c]) (gOf (s.length+1)) (s.length+1) Ns with
 |some z=>
  dsimp only;rw[hd,z36e];rw[z3bf];unfold z16b;rw[List.map_map];rfl
 |none=>
  dsimp only;rw[h2 hz];unfold z2dc;rw[hl]
theorem z387:NoHit Ns []:=fun t ht _ _ f _ hf=>by
 have:t≤0:=ht;omega
theorem z44b(h:NoHit Ns s)(hz:z113 (s++[c]) (gOf (s.length+1)) (s.length+1) Ns=none):NoHit Ns (s++[c]):=by
 have hl:(s++[c]).length=s.length+1:=by rw[List.length_append,List.length_singleton]
 intro t ht N hN f h1 h2
 by_cases hts:t≤s.length
 ·rw [z336 hts]
  exact h t hts N hN f h1 h2
 ·have : t = s.length + 1 := by omega
  subst this;exact(z28d Ns).1 hz N hN f h1 h2
theorem z474(h:NoHit Ns s):z1c2 Ns ((s++[c]).drop (gOf (s.length+1))) ((s++[c]).drop (gOf (s.length+1))).length 1=(z113 (s++[c]) (gOf (s.length+1)) (s.length+1) Ns).map fun z=>(z.1,z.2 - gOf (s.length+1),s.length+1 - gOf (s.length+1)):=by
 have hl:(s++[c]).length=s.length+1:=by rw[List.length_append,List.length_singleton]
 have hg:gOf (s.length+1)≤s.length:=by unfold gOf;omega
 have hd:((s++[c]).drop (gOf (s.length+1))).length=(s.length - gOf (s.length+1))+1:=by rw[List.length_drop,hl];omega
 rw[hd,z31a Ns (s.length - gOf (s.length+1)) 1 fun j h1 h2=>?_]
 ·rw [show 1 + (s.length - gOf (s.length + 1)) = s.length + 1 - gOf (s.length + 1) by omega, z34b (by omega), Option.map_map]
  rfl
 ·have e : j = (gOf (s.length + 1) + j) - gOf (s.length + 1) := by omega
  rw[e,z34b (by omega)]
  have hn:z113 (s++[c]) (gOf (s.length+1)) (gOf (s.length+1)+j) Ns=none:=by
   rw[z28d];intro N hN f h3 h4;have hj:gOf (s.length+1)+j≤s.length:=by omega
   rw[z336 hj];refine h _ hj N hN f ?_ h4
   have:gOf (gOf (s.length+1)+j)≤gOf (s.length+1):=by
    unfold gOf at hj ⊢;omega
   omega
  rw[hn];rfl
end
theorem z473(ts:List Nd):z39f ts=z2dc (ts.map za3) []:=by
 rw[z3bf,List.map_map];rfl
noncomputable def z71(call:zc)(t0:AV)(t1:Bytes)(v19:AV)(k26:AHeap→R)(self:Bytes→Int→AHeap→R)(t7:Bytes)(t8:Int)(h_30:AHeap):R:=lett (decide (t8<(z101 t1))) fun (t31:Bool)=>ifB t31 (lett (IntKind.i64.wrap (t8+1)) fun (t39:Int)=>obind (z263 t1 t8 t39) fun t40=>callN (call 19 [v19,z17 t40] h_30) fun r41 h_39=>obind (z154 0 r41) fun v42=>obind (avInt .i64 v42) fun t42=>obind (z154 1 r41) fun v43=>obind (z6a v43) fun t43=>obind (z154 2 r41) fun v44=>obind (z26 v44) fun t44=>lett (newH h_39 26 [.int .i64 0,.int .i64 0,.int .i64 0]) fun h_47=>obind (z15 h_47 3 t43 (z6 h_39)) fun h_49=>lett (IntKind.i64.wrap (t8+1)) fun (t49:Int)=>obind (z263 t1 t8 t49) fun t50=>obind (addS t7 t50) fun t51=>callN (call 24 [z17 t51] h_49) fun r52 h_55=>obind (z190 r52) fun t52=>lett ((t42:Int) != 1) fun (t54:Bool)=>lett (fun (t59:Bool) (h_61:AHeap)=>ifB t59 (some (.ret (.bool false),h_61)) (lett (newH h_61 26 [.int .i64 0,.int .i64 0,.int .i64 0]) fun h_66=>obind (z15 h_66 3 ([.int .i64 0,.int .i64 0,.int .i64 0]:List AV) (z6 h_61)) fun h_68=>lett (fun (t66:Bool) (h_72:AHeap)=>lett (fun (t73:Bool) (h_75:AHeap)=>lett (fun (t13:Bool) (h_79:AHeap)=>lett (!((t44:Bool) == t13)) fun (t82:Bool)=>lett (fun (t87:Bool) (h_83:AHeap)=>lett (fun (t97:Bool) (h_86:AHeap)=>ifB t97 (some (.ret (.bool false),h_86)) (lett (fun (t7_93:Bytes) (h_94:AHeap)=>callN (call 21 [v19] h_94) fun r100 h_96=>obind (z190 r100) fun t100=>lett (!eqS t100 t7_93) fun (t102:Bool)=>ifB t102 (some (.ret (.bool false),h_96)) (lett (IntKind.i64.wrap (t8+1)) fun (t33:Int)=>self t7_93 t33 h_96)) fun k92=>ifB t44 (k92 ([]:Bytes) h_86) (k92 t52 h_86))) fun j97=>ifB t87 (j97 true h_83) (lett (fun (t96:Bool) (h_102:AHeap)=>j97 t96 h_102) fun j96=>ifB t44 (obind (z7 h_83 (AV.ptr (AHeap.next h_39) 2)) fun v92=>obind (avInt .i64 v92) fun t92=>lett ((t92:Int) != (z101 t52)) fun (t95:Bool)=>j96 t95 h_83) (j96 false h_83))) fun j87=>ifB t82 (j87 true h_79) (obind (z16 h_79 3 (z6 h_39)) fun t84=>obind (z16 h_79 3 (z6 h_61)) fun t85=>obind (zc3 Tryd.prog 26 (.agg t84) (.agg t85)) fun t86=>lett (!t86) fun (t86_111:Bool)=>j87 t86_111 h_79)) fun k78=>ifB t73 (callN (call 14 [t0,z17 t52] h_75) fun r77 h_113=>obind (z154 0 r77) fun v78=>obind (z6a v78) fun t78=>obind (z154 1 r77) fun v79=>obind (z26 v79) fun t79=>obind (z15 h_113 3 t78 (z6 h_61)) fun h_119=>k78 t79 h_119) (k78 false h_75)) fun j73=>ifB t66 (j73 true h_72) (lett (IntKind.i64.wrap (t8+3)) fun (t69:Int)=>lett (decide (t69>(z101 t1))) fun (t72:Bool)=>j73 t72 h_72)) fun j66=>ifB t44 (j66 true h_68) (obind (remI .i64 t8 16) fun t64=>lett ((t64:Int) == 0) fun (t65:Bool)=>j66 t65 h_68))) fun j59=>ifB t54 (j59 true h_55) (lett (decide ((z101 t52)>256)) fun (t58:Bool)=>j59 t58 h_55)) (k26 h_30)
noncomputable def z5f(call:zc)(t0:AV)(t1:Bytes)(v19:AV)(k26:AHeap→R):Nat→Bytes→Int→AHeap→R:=ze9 (fun _ _ _=>none) (z71 call t0 t1 v19 k26)
theorem zc2(call:zc)(t0:AV)(t1:Bytes)(v19:AV)(k26:AHeap→R)(m:Nat):z5f call t0 t1 v19 k26 (m+1)=z71 call t0 t1 v19 k26 (z5f call t0 t1 v19 k26 m):=rfl
noncomputable def zdd(call:zc)(n:Nat)(t0:AV)(t1:Bytes)(h:AHeap):R:=callN (call 12 [] h) fun r14 h_4=>obind (z26 r14) fun t14=>lett (!t14) fun (t15:Bool)=>ifB t15 (some (.ret (.bool false),h_4)) (callN (call 16 [t0] h_4) fun r18 h_10=>obind (z154 0 r18) fun v19=>obind (z154 1 r18) fun v20=>obind (avInt .i64 v20) fun t20=>lett ((t20:Int) != 0) fun (t22:Bool)=>lett (fun (t27:Bool) (h_18:AHeap)=>ifB t27 (some (.ret (.bool true),h_18)) (lett (fun (h_27:AHeap)=>some (.ret (.bool true),h_27)) fun k26=>z5f call t0 t1 v19 k26 n ([]:Bytes) 0 h_18)) fun j27=>ifB t22 (j27 true h_10) (lett (decide ((z101 t1)>600)) fun (t26:Bool)=>j27 t26 h_10))
set_option maxHeartbeats 4000000 in
set_option maxRecDepth 20000 in
theorem z1df{call:zc}(hc:SaysAll Tryd.prog call){n:Nat}{t0:AV}{t1:Bytes}{h:AHeap}{rR:ARes}{hR:AHeap}(hF:zdd call n t0 t1 h=some (rR,hR)):Says Tryd.prog 6 [t0,z17 t1] h rR hR:=by
 unfold zdd at hF;refine sO Tryd.func6 fun w0 m0=>?_;refine wW [(0,t0),(1,z17 t1)] ?_;refine oG fun n1=>W.r ?_;refine oA 4 (.bool false) ?_;refine oV [(0,t0),(1,z17 t1)] (n1 ?_);refine oH fun n2 q2=>?_;refine oG fun n3=>W.r ?_;refine oCb hc 14 hF fun t14 h_4 hF=>?_;refine oB 15 hF fun t15 hF=>?_;refine oV [(0,t0),(1,z17 t1),(15,.bool t15)] (n3 ?_)
 cases t15 with
 |true=>
  refine oT hF fun hF=>?_;refine oG fun n8=>W.r ?_;refine oA 4 (.bool false) ?_;refine oV [(4,.bool false)] (n8 (oY (q2 ?_)));exact lZ hF [.tmp 4] [.bool false] (rT zd)
 |false=>
  refine oU hF fun hF=>?_;refine oZ (n2 ?_);refine oG fun n9=>W.r ?_;refine oA 17 t0 ?_;refine oC hc (some 18) hF fun r18 h_10 hF=>?_;refine oA 16 r18 ?_;refine oE 19 hF fun v19 hF=>?_;refine oEi 20 hF fun t20 hF=>?_;refine oA 5 v19 ?_;refine oA 6 (.int .i64 t20) ?_;refine oV [(0,t0),(1,z17 t1),(5,v19),(6,.int .i64 t20)] (n9 ?_);refine oH fun n15 q15=>?_;refine W.s (fun K16 n16 e16 q16 p16=>?_);refine W.r ?_;refine oA 21 (.int .i64 t20) ?_;refine oB 22 hF fun t22 hF=>?_;refine oA 23 (.bool t22) ?_;obtain⟨j27,e19,hF⟩:=z9 hF
  have J20:∀(t27:Bool) (h_18:AHeap),j27 t27 h_18=some (rR,hR)→WL Tryd.prog w0 m0 (Func.ntmps Tryd.f6) (Code.ops (y4 (y4 (y3 (y3 (y3 (z72 Tryd.f6))))))) 7 K16 [(0,t0),(1,z17 t1),(5,v19),(27,.bool t27)] [] h_18:=by
   intro t27 h_18 hF;rw[e19] at hF;refine oV [(0,t0),(1,z17 t1),(5,v19),(27,.bool t27)] (n16 ?_)
   cases t27 with
   |true=>
    refine oT hF fun hF=>?_;refine oG fun n21=>W.r ?_;refine oA 4 (.bool true) ?_;refine oV [(4,.bool true)] (n21 (oY (q15 ?_)));exact lZ hF [.tmp 4] [.bool true] (rT zd)
   |false=>
    refine oU hF fun hF=>?_;refine oZ (n15 ?_);refine oG fun n22=>W.r ?_;refine oA 7 (z17 ([]:Bytes)) ?_;refine oV [(0,t0),(1,z17 t1),(5,v19),(7,z17 ([]:Bytes))] (n22 ?_);refine W.s (fun K23 n23 e23 q23 p23=>?_);refine oG fun n24=>W.r ?_;refine oA 8 (.int .i64 0) ?_;refine oV [(0,t0),(1,z17 t1),(5,v19),(7,z17 ([]:Bytes)),(8,.int .i64 0)] (n24 ?_);obtain⟨k26,e26,hF⟩:=z9 hF
    have J26:∀(h_27:AHeap),k26 h_27=some (rR,hR)→Go w0 m0 (Func.ntmps Tryd.f6) (K23 .normal) [] [] h_27:=by
     intro h_27 hF;rw[e26] at hF;refine n23 ?_;refine oG fun n28=>W.r ?_;refine oA 4 (.bool true) ?_;refine oV [(4,.bool true)] (n28 (oY ?_));exact lZ hF [.tmp 4] [.bool true] (rT zd)
    refine yc (by kernel_rfl) (fun K25 n25 s25 o25 q25 p25=>?_);refine y15 (by kernel_rfl) (fun I29 K29 b29 n29 e29 q29 p29=>?_)
    have L29:∀(m:Nat) (t7:Bytes) (t8:Int) (h_30:AHeap),z5f call t0 t1 v19 k26 m t7 t8 h_30=some (rR,hR)→Go w0 m0 (Func.ntmps Tryd.f6) I29 [(0,t0),(1,z17 t1),(5,v19),(7,z17 t7),(8,.int .i64 t8)] [] h_30:=by
     intro m
     induction m with
     |zero=>intro t7 t8 h_30 hF;cases hF
     |succ m ih29=>
      intro t7 t8 h_30 hF;rw[zc2] at hF;unfold z71 at hF;refine b29 ?_;refine W.s (fun K31 n31 e31 q31 p31=>?_);refine oG fun n32=>W.r ?_;refine oA 28 (.int .i64 t8) ?_;refine oA 29 (z17 t1) ?_;refine oA 30 (.int .i64 (z101 t1)) ?_;refine oB 31 hF fun t31 hF=>?_;refine oV [(0,t0),(1,z17 t1),(5,v19),(7,z17 t7),(8,.int .i64 t8),(31,.bool t31)] (n32 ?_)
      cases t31 with
      |true=>
       refine oT hF fun hF=>?_;refine oZ (n31 ?_);refine oH fun n34 q34=>?_;refine yc (by kernel_rfl) (fun K35 n35 s35 o35 q35 p35=>?_);refine oG fun n36=>W.r ?_;refine oA 35 v19 ?_;refine oA 36 (z17 t1) ?_;refine oA 37 (.int .i64 t8) ?_;refine oA 38 (.int .i64 t8) ?_;refine oI 39 .i64 hF fun t39 hF=>?_;obtain⟨t40,e38,hF⟩:=z3 hF;refine WL.b (some 40) (z17 t40) h_30 (z20f (P:=Tryd.prog) (h:=h_30) (t:=9) (A:=(some (.int .i64 t8))) (B:=(some (.int .i64 t39))) (by kernel_rfl) (.inl ⟨_,rfl⟩) (.inl ⟨_,rfl⟩) e38) ?_;refine oC hc (some 41) hF fun r41 h_39 hF=>?_;refine oA 34 r41 ?_;refine oEi 42 hF fun t42 hF=>?_;refine oEa 43 hF fun t43 hF=>?_;refine oEb 44 hF fun t44 hF=>?_;refine oN 10 hF fun h_47 hF=>?_;refine oA 9 (.int .i64 t42) ?_;refine oW 26 (.agg t43) hF fun h_49 hF=>?_;refine oA 11 (.bool t44) ?_;refine oV [(0,t0),(1,z17 t1),(5,v19),(7,z17 t7),(8,.int .i64 t8),(9,.int .i64 t42),(10,(z6 h_39)),(11,.bool t44)] (n36 ?_);refine oG fun n51=>W.r ?_;refine oA 45 (z17 t7) ?_;refine oA 46 (z17 t1) ?_;refine oA 47 (.int .i64 t8) ?_;refine oA 48 (.int .i64 t8) ?_;refine oI 49 .i64 hF fun t49 hF=>?_;obtain⟨t50,e53,hF⟩:=z3 hF;refine WL.b (some 50) (z17 t50) h_49 (z20f (P:=Tryd.prog) (h:=h_49) (t:=9) (A:=(some (.int .i64 t8))) (B:=(some (.int .i64 t49))) (by kernel_rfl) (.inl ⟨_,rfl⟩) (.inl ⟨_,rfl⟩) e53) ?_;obtain⟨t51,e54,hF⟩:=z3 hF;refine WL.b (some 51) (z17 t51) h_49 (add_str (P:=Tryd.prog) (h:=h_49) (t:=9) (lit:=false) e54) ?_;refine oCs hc 52 hF fun t52 h_55 hF=>?_;refine oA 7 (z17 t52) ?_;refine oV [(0,t0),(1,z17 t1),(5,v19),(7,z17 t52),(8,.int .i64 t8),(9,.int .i64 t42),(10,(z6 h_39)),(11,.bool t44)] (n51 ?_);refine oH fun n58 q58=>?_;refine W.s (fun K59 n59 e59 q59 p59=>?_);refine W.r ?_;refine oA 53 (.int .i64 t42) ?_;refine oB 54 hF fun t54 hF=>?_;refine oA 55 (.bool t54) ?_;obtain⟨j59,e62,hF⟩:=z9 hF
       have J63:∀(t59:Bool) (h_61:AHeap),j59 t59 h_61=some (rR,hR)→WL Tryd.prog w0 m0 (Func.ntmps Tryd.f6) (Code.ops (y4 (y4 (y3 (y3 (y4 (y4 (y3 (y4 (y4 (y3 (y4 (y3 (y3 (y3 (y3 (y3 (z72 Tryd.f6)))))))))))))))))) 7 K59 [(0,t0),(1,z17 t1),(5,v19),(7,z17 t52),(8,.int .i64 t8),(10,(z6 h_39)),(11,.bool t44),(59,.bool t59)] [] h_61:=by
        intro t59 h_61 hF;rw[e62] at hF;refine oV [(0,t0),(1,z17 t1),(5,v19),(7,z17 t52),(8,.int .i64 t8),(10,(z6 h_39)),(11,.bool t44),(59,.bool t59)] (n59 ?_)
        cases t59 with
        |true=>
         refine oT hF fun hF=>?_;refine oG fun n64=>W.r ?_;refine oA 4 (.bool false) ?_;refine oV [(4,.bool false)] (n64 (oY (q58 (q35 (q34 (q29 (q25 (q23 ?_))))))));exact lZ hF [.tmp 4] [.bool false] (rT zd)
        |false=>
         refine oU hF fun hF=>?_;refine oZ (n58 ?_);refine oG fun n65=>W.r ?_;refine oA 60 (.agg ([.int .i64 0,.int .i64 0,.int .i64 0]:List AV)) ?_;refine oN 12 hF fun h_66 hF=>?_;refine oW 26 (.agg ([.int .i64 0,.int .i64 0,.int .i64 0]:List AV)) hF fun h_68 hF=>?_;refine oA 13 (.bool false) ?_;refine oV [(0,t0),(1,z17 t1),(5,v19),(7,z17 t52),(8,.int .i64 t8),(10,(z6 h_39)),(11,.bool t44),(12,(z6 h_61)),(13,.bool false)] (n65 ?_);refine W.s (fun K70 n70 e70 q70 p70=>?_);refine W.s (fun K71 n71 e71 q71 p71=>?_);refine W.r ?_;refine oA 61 (.bool t44) ?_;refine oA 62 (.bool t44) ?_;obtain⟨j66,e73,hF⟩:=z9 hF
         have J74:∀(t66:Bool) (h_72:AHeap),j66 t66 h_72=some (rR,hR)→WL Tryd.prog w0 m0 (Func.ntmps Tryd.f6) (Code.ops (y4 (y4 (y3 (y3 (y3 (y3 (y4 (y4 (y3 (y4 (y4 (y3 (y4 (y3 (y3 (y3 (y3 (y3 (z72 Tryd.f6)))))))))))))))))))) 6 K71 [(0,t0),(1,z17 t1),(5,v19),(7,z17 t52),(8,.int .i64 t8),(10,(z6 h_39)),(11,.bool t44),(12,(z6 h_61)),(13,.bool false),(66,.bool t66)] [] h_72:=by
          intro t66 h_72 hF;rw[e73] at hF;refine oA 67 (.bool t66) ?_;obtain⟨j73,e76,hF⟩:=z9 hF
          have J77:∀(t73:Bool) (h_75:AHeap),j73 t73 h_75=some (rR,hR)→WL Tryd.prog w0 m0 (Func.ntmps Tryd.f6) (Code.ops (y4 (y4 (y3 (y3 (y3 (y3 (y4 (y4 (y3 (y4 (y4 (y3 (y4 (y3 (y3 (y3 (y3 (y3 (z72 Tryd.f6)))))))))))))))))))) 13 K71 [(0,t0),(1,z17 t1),(5,v19),(7,z17 t52),(8,.int .i64 t8),(10,(z6 h_39)),(11,.bool t44),(12,(z6 h_61)),(13,.bool false),(73,.bool t73)] [] h_75:=by
           intro t73 h_75 hF;rw[e76] at hF;refine oV [(0,t0),(1,z17 t1),(5,v19),(7,z17 t52),(8,.int .i64 t8),(10,(z6 h_39)),(11,.bool t44),(12,(z6 h_61)),(13,.bool false),(73,.bool t73)] (n71 ?_);obtain⟨k78,e78,hF⟩:=z9 hF
           have J78:∀(t13:Bool) (h_79:AHeap),k78 t13 h_79=some (rR,hR)→Go w0 m0 (Func.ntmps Tryd.f6) (K70 .normal) [(0,t0),(1,z17 t1),(5,v19),(7,z17 t52),(8,.int .i64 t8),(10,(z6 h_39)),(11,.bool t44),(12,(z6 h_61)),(13,.bool t13)] [] h_79:=by
            intro t13 h_79 hF;rw[e78] at hF;refine n70 ?_;refine oH fun n80 q80=>?_;refine W.s (fun K81 n81 e81 q81 p81=>?_);refine W.r ?_;refine oA 80 (.bool t44) ?_;refine oA 81 (.bool t13) ?_;refine oB 82 hF fun t82 hF=>?_;refine oA 83 (.bool t82) ?_;obtain⟨j87,e84,hF⟩:=z9 hF
            have J85:∀(t87:Bool) (h_83:AHeap),j87 t87 h_83=some (rR,hR)→WL Tryd.prog w0 m0 (Func.ntmps Tryd.f6) (Code.ops (y4 (y4 (y3 (y3 (y3 (y3 (y3 (y4 (y4 (y3 (y4 (y4 (y3 (y4 (y3 (y3 (y3 (y3 (y3 (z72 Tryd.f6))))))))))))))))))))) 8 K81 [(0,t0),(1,z17 t1),(5,v19),(7,z17 t52),(8,.int .i64 t8),(10,(z6 h_39)),(11,.bool t44),(87,.bool t87)] [] h_83:=by
             intro t87 h_83 hF;rw[e84] at hF;refine oA 88 (.bool t87) ?_;obtain⟨j97,e87,hF⟩:=z9 hF
             have J88:∀(t97:Bool) (h_86:AHeap),j97 t97 h_86=some (rR,hR)→WL Tryd.prog w0 m0 (Func.ntmps Tryd.f6) (Code.ops (y4 (y4 (y3 (y3 (y3 (y3 (y3 (y4 (y4 (y3 (y4 (y4 (y3 (y4 (y3 (y3 (y3 (y3 (y3 (z72 Tryd.f6))))))))))))))))))))) 18 K81 [(0,t0),(1,z17 t1),(5,v19),(7,z17 t52),(8,.int .i64 t8),(11,.bool t44),(97,.bool t97)] [] h_86:=by
              intro t97 h_86 hF;rw[e87] at hF;refine oV [(0,t0),(1,z17 t1),(5,v19),(7,z17 t52),(8,.int .i64 t8),(11,.bool t44),(97,.bool t97)] (n81 ?_)
              cases t97 with
              |true=>
               refine oT hF fun hF=>?_;refine oG fun n89=>W.r ?_;refine oA 4 (.bool false) ?_;refine oV [(4,.bool false)] (n89 (oY (q80 (q35 (q34 (q29 (q25 (q23 ?_))))))));exact lZ hF [.tmp 4] [.bool false] (rT zd)
              |false=>
               refine oU hF fun hF=>?_;refine oZ (n80 ?_);refine W.s (fun K90 n90 e90 q90 p90=>?_);refine oG fun n91=>W.r ?_;refine oA 98 (.bool t44) ?_;refine oV [(0,t0),(1,z17 t1),(5,v19),(7,z17 t52),(8,.int .i64 t8),(98,.bool t44)] (n91 ?_);obtain⟨k92,e92,hF⟩:=z9 hF
               have J92:∀(t7_93:Bytes) (h_94:AHeap),k92 t7_93 h_94=some (rR,hR)→Go w0 m0 (Func.ntmps Tryd.f6) (K90 .normal) [(0,t0),(1,z17 t1),(5,v19),(7,z17 t7_93),(8,.int .i64 t8)] [] h_94:=by
                intro t7_93 h_94 hF;rw[e92] at hF;refine n90 ?_;refine oG fun n95=>W.r ?_;refine oA 99 v19 ?_;refine oCs hc 100 hF fun t100 h_96 hF=>?_;refine oA 101 (z17 t7_93) ?_;refine oB 102 hF fun t102 hF=>?_;refine oV [(0,t0),(1,z17 t1),(5,v19),(7,z17 t7_93),(8,.int .i64 t8),(102,.bool t102)] (n95 ?_)
                cases t102 with
                |true=>
                 refine oT hF fun hF=>?_;refine oG fun n100=>W.r ?_;refine oA 4 (.bool false) ?_;refine oV [(4,.bool false)] (n100 (oY (q35 (q34 (q29 (q25 (q23 ?_)))))));exact lZ hF [.tmp 4] [.bool false] (rT zd)
                |false=>
                 refine oU hF fun hF=>?_;refine oZ (n35 (n34 (W.r ?_)));refine oA 32 (.int .i64 t8) ?_;refine oI 33 .i64 hF fun t33 hF=>?_;refine oA 8 (.int .i64 t33) ?_;refine oV [(0,t0),(1,z17 t1),(5,v19),(7,z17 t7_93),(8,.int .i64 t33)] (n29 ?_);exact gW _ (ih29 _ _ _ hF)
               cases t44 with
               |true=>
                refine oT hF fun hF=>?_;refine W.r ?_;refine oA 7 (z17 ([]:Bytes)) ?_;refine oV [(0,t0),(1,z17 t1),(5,v19),(7,z17 ([]:Bytes)),(8,.int .i64 t8)] ?_;exact gW _ (J92 _ _ hF)
               |false=>
                refine oU hF fun hF=>?_;refine oZ ?_;exact gW _ (J92 _ _ hF)
             cases t87 with
             |true=>
              replace hF:=ze3 hF
              refine WL.o (some 89) ?_;refine WL.o (some 90) ?_;refine WL.o (some 91) ?_;refine WL.o (some 92) ?_;refine WL.o (some 93) ?_;refine WL.o (some 94) ?_;refine WL.o (some 95) ?_;refine WL.o (some 96) ?_;refine oA 97 (.bool true) ?_;exact lW _ (J88 _ _ hF)
             |false=>
              replace hF:=ze4 hF
              refine oA 89 (.bool t44) ?_;refine oA 90 (.bool t44) ?_;obtain⟨j96,e103,hF⟩:=z9 hF
              have J104:∀(t96:Bool) (h_102:AHeap),j96 t96 h_102=some (rR,hR)→WL Tryd.prog w0 m0 (Func.ntmps Tryd.f6) (Code.ops (y4 (y4 (y3 (y3 (y3 (y3 (y3 (y4 (y4 (y3 (y4 (y4 (y3 (y4 (y3 (y3 (y3 (y3 (y3 (z72 Tryd.f6))))))))))))))))))))) 17 K81 [(0,t0),(1,z17 t1),(5,v19),(7,z17 t52),(8,.int .i64 t8),(11,.bool t44),(88,.bool false),(96,.bool t96)] [] h_102:=by
               intro t96 h_102 hF;rw[e103] at hF;refine oA 97 (.bool t96) ?_;exact lW _ (J88 _ _ hF)
              cases t44 with
              |true=>
               replace hF:=ze3 hF
               refine oA 91 (AV.ptr (AHeap.next h_39) 2) ?_;refine oLi 92 3 hF fun t92 hF=>?_;refine oA 93 (z17 t52) ?_;refine oA 94 (.int .i64 (z101 t52)) ?_;refine oB 95 hF fun t95 hF=>?_;refine oA 96 (.bool t95) ?_;exact lW _ (J104 _ _ hF)
              |false=>
               replace hF:=ze4 hF
               refine WL.o (some 91) ?_;refine WL.o (some 92) ?_;refine WL.o (some 93) ?_;refine WL.o (some 94) ?_;refine WL.o (some 95) ?_;refine oA 96 (.bool false) ?_;exact lW _ (J104 _ _ hF)
            cases t82 with
            |true=>
             replace hF:=ze3 hF
             refine WL.o (some 84) ?_;refine WL.o (some 85) ?_;refine WL.o (some 86) ?_;refine oA 87 (.bool true) ?_;exact lW _ (J85 _ _ hF)
            |false=>
             replace hF:=ze4 hF
             refine oR 84 26 hF fun t84 hF=>?_;refine oR 85 26 hF fun t85 hF=>?_;obtain⟨t86,e110,hF⟩:=z3 hF;obtain⟨t86_111,e112,hF⟩:=z9 hF;refine WL.val (d:=(some 86)) (v:=.bool t86_111) (h':=h_79) (by kernel_rfl) (by kernel_rfl) (zf8 AV.bool e112 (Eq.trans (by kernel_rfl) (z2b6 (P:=Tryd.prog) (h:=h_79) (t:=26) (lit:=false) (by kernel_rfl) e110))) ?_;refine oA 87 (.bool t86_111) ?_;exact lW _ (J85 _ _ hF)
           cases t73 with
           |true=>
            refine oT hF fun hF=>?_;refine W.r ?_;refine oA 75 t0 ?_;refine oA 76 (z17 t52) ?_;refine oC hc (some 77) hF fun r77 h_113 hF=>?_;refine oA 74 r77 ?_;refine oEa 78 hF fun t78 hF=>?_;refine oEb 79 hF fun t79 hF=>?_;refine oW 26 (.agg t78) hF fun h_119 hF=>?_;refine oA 13 (.bool t79) ?_;refine oV [(0,t0),(1,z17 t1),(5,v19),(7,z17 t52),(8,.int .i64 t8),(10,(z6 h_39)),(11,.bool t44),(12,(z6 h_61)),(13,.bool t79)] ?_;exact gW _ (J78 _ _ hF)
           |false=>
            refine oU hF fun hF=>?_;refine oZ ?_;exact gW _ (J78 _ _ hF)
          cases t66 with
          |true=>
           replace hF:=ze3 hF
           refine WL.o (some 68) ?_;refine WL.o (some 69) ?_;refine WL.o (some 70) ?_;refine WL.o (some 71) ?_;refine WL.o (some 72) ?_;refine oA 73 (.bool true) ?_;exact lW _ (J77 _ _ hF)
          |false=>
           replace hF:=ze4 hF
           refine oA 68 (.int .i64 t8) ?_;refine oI 69 .i64 hF fun t69 hF=>?_;refine oA 70 (z17 t1) ?_;refine oA 71 (.int .i64 (z101 t1)) ?_;refine oB 72 hF fun t72 hF=>?_;refine oA 73 (.bool t72) ?_;exact lW _ (J77 _ _ hF)
         cases t44 with
         |true=>
          replace hF:=ze3 hF
          refine WL.o (some 63) ?_;refine WL.o (some 64) ?_;refine WL.o (some 65) ?_;refine oA 66 (.bool true) ?_;exact lW _ (J74 _ _ hF)
         |false=>
          replace hF:=ze4 hF
          refine oA 63 (.int .i64 t8) ?_;obtain⟨t64,e123,hF⟩:=z3 hF;refine WL.b (some 64) (.int .i64 t64) h_68 (z3d0 (P:=Tryd.prog) (h:=h_68) (t:=3) (lit:=true) e123) ?_;refine oB 65 hF fun t65 hF=>?_;refine oA 66 (.bool t65) ?_;exact lW _ (J74 _ _ hF)
       cases t54 with
       |true=>
        replace hF:=ze3 hF
        refine WL.o (some 56) ?_;refine WL.o (some 57) ?_;refine WL.o (some 58) ?_;refine oA 59 (.bool true) ?_;exact lW _ (J63 _ _ hF)
       |false=>
        replace hF:=ze4 hF
        refine oA 56 (z17 t52) ?_;refine oA 57 (.int .i64 (z101 t52)) ?_;refine oB 58 hF fun t58 hF=>?_;refine oA 59 (.bool t58) ?_;exact lW _ (J63 _ _ hF)
      |false=>
       refine oU hF fun hF=>?_;refine W.exit (by kernel_rfl) ?_;refine e31 (e29 ?_);refine s25 (by kernel_rfl) ?_;exact gW _ (J26 _ hF)
    exact gW _ (L29 _ _ _ _ hF)
  cases t22 with
  |true=>
   replace hF:=ze3 hF
   refine WL.o (some 24) ?_;refine WL.o (some 25) ?_;refine WL.o (some 26) ?_;refine oA 27 (.bool true) ?_;exact lW _ (J20 _ _ hF)
  |false=>
   replace hF:=ze4 hF
   refine oA 24 (z17 t1) ?_;refine oA 25 (.int .i64 (z101 t1)) ?_;refine oB 26 hF fun t26 hF=>?_;refine oA 27 (.bool t26) ?_;exact lW _ (J20 _ _ hF)
open Go.RowKit Abs
section
variable {n d:Nat}{h:AHeap}{s:Bytes}
theorem keepB_w(hs:s.length<1000000):world n (d+1) 24 [z17 s] h=some (.ret (z17 (s.drop (gOf s.length))),h):=by
 apply Wp.eq;rw[z261];refine y3c ?_
 suffices hK:Wp (z100 (world n d) n s h) fun r h'=>r=.ret (z17 (s.drop (gOf s.length)))∧h'=h from hK.mono fun r h' ⟨e,t⟩=>⟨by rw[t];exact(Tch.refl [] h).above,by rw[e];rfl,e,rfl⟩
 unfold z100;have ll:=z57 s
 (((with_reducible refine ye ?_ ?_ ?_);omega;omega))
 refine y1a fun t7 et=>?_
 have e7:t7=((gOf s.length:Nat):Int):=by
  rw[et];unfold gOf
  split<;>omega
 have hg:gOf s.length≤s.length:=by unfold gOf;omega
 have sl:=z2fe (l:=s) hg (Nat.le_refl _);rw[List.take_of_length_le (by rw[List.length_drop];exact Nat.le_refl _)] at sl;rw[e7,ll];refine Wp.obind sl ?_;exact Wp.ret ⟨rfl,rfl⟩
theorem win_kept(S:Bytes)(c:UInt8):(S.drop (gOf S.length)++[c]).drop (gOf (S.drop (gOf S.length)++[c]).length)=(S++[c]).drop (gOf (S.length+1)):=by
 have hl:(S.drop (gOf S.length)++[c]).length=S.length - gOf S.length+1:=by rw[List.length_append,List.length_drop,List.length_singleton]
 rw[hl]
 by_cases h:S.length<256
 ·have e1 : gOf S.length = 0 := by unfold gOf; omega
  have e2:gOf (S.length+1)=0:=by unfold gOf;omega
  rw[e1,Nat.sub_zero,e2];rfl
 ·have e2 : gOf (S.length + 1) = gOf S.length + 1 := by unfold gOf; omega
  have e3:gOf (S.length - gOf S.length+1)=1:=by unfold gOf;omega
  have h3:gOf S.length+1≤S.length:=by unfold gOf;omega
  rw[e3,e2,List.drop_append_of_le_length h3,List.drop_append_of_le_length (by rw[List.length_drop];omega),List.drop_drop]
end
theorem eqHitS(a b c:Int):zc3 Tryd.prog z3bc (.agg [.int .i64 a,.int .i64 b,.int .i64 c]) (.agg [.int .i64 a,.int .i64 b,.int .i64 c])=some true:=by
 rw[eqHit]
 simp
section
variable {n d mb ab:Nat}{h:AHeap}{nbs:List Nat}{s:Bytes}{x0:AV}{ps:List (Int×Bytes)}{ts:List Nd}{k26:AHeap→R}
theorem z1eb(hn:18446744073709551620<n)(hM:May n (d+3) ps ts)(kp:Slc h.next h 2 x0 (ps.map z413))(hX:h.ex=[])(hT:HasTz h)(hs:s.length≤600)(hnb:∀b∈nbs,h.next≤b)(hk:∀H,Wp (k26 H) fun r _=>r=.ret (.bool true)):
  ∀(k fu i:Nat) (S:Bytes) (B:List Nat) (H:AHeap),k<fu→i+k=s.length→S.length≤i→MatS H mb ab B nbs (z2dc (ts.map za3) S)→NoHit (ts.map za3) S→Tch [] h H→(∀b∈B,h.next≤b)→
   Wp (z5f (world n (d+6)) x0 s (.ptr mb 0) k26 fu (S.drop (gOf S.length)) (i:Int) H) fun r _=>r=.ret (.bool true)
 |_,0,_,_,_,_,hf,_,_,_,_,_,_=>by omega
 |0,fu+1,i,S,B,H,hf,hi,hS,km,hno,t0,hB=>by
  have ll:=z57 s;rw[zc2];unfold z71
  ((with_reducible refine Wp.lett ?_))
  refine y6 (by rw[decide_eq_false_iff_not];omega) ?_;exact hk H
 |k+1,fu+1,i,S,B,H,hf,hi,hS,km,hno,t0,hB=>by
  have ll:=z57 s;have hil:i<s.length:=by omega
  have el:(i:Int)+1=((i+1:Nat):Int):=by omega
  have sl:z263 s (i:Int) ((i:Int)+1)=some [s[i]]:=by
   rw[el,z2fe (by omega) (by omega),List.drop_eq_getElem_cons hil,show i+1 - i=1 by omega];rfl
  generalize hc:s[i]=c at sl
  have hml:(z2dc (ts.map za3) S).2.2+(z2dc (ts.map za3) S).2.1.length=S.length:=by
   unfold z2dc;dsimp only;rw[List.length_drop];unfold gOf;omega
  have hdl:(S.drop (gOf S.length)).length≤256:=by
   rw[List.length_drop];unfold gOf;omega
  have hxH:H.ex=[]:=by rw[t0.2.1,hX]
  obtain⟨h1,B1,e1,m1,t1,s1⟩:=feed_ok (n:=n) (d:=d) (s:=[c]) (by omega) km (hT.tch t0 (by simp)) hxH (by show 1<80000;decide) (by show _+1<80000;omega);rw[feed_one] at e1 m1;have kl1:(S.drop (gOf S.length)++[c]).length <1000000:=by rw[List.length_append,List.length_singleton];omega
  have A1:addS (S.drop (gOf S.length)) [c]=some (S.drop (gOf S.length)++[c]):=addS_val (by show _+1≤1000000000;omega);have kw:=fun h4=>(keepB_w (n:=n) (d:=d+5) (h:=h4) kl1);simp only[win_kept] at kw;have hkl:((S++[c]).drop (gOf (S.length+1))).length=S.length+1 - gOf (S.length+1):=by rw[List.length_drop,List.length_append,List.length_singleton]
  have hk256:((S++[c]).drop (gOf (S.length+1))).length≤256:=by
   rw[hkl];unfold gOf;omega
  have lk:=z57 ((S++[c]).drop (gOf (S.length+1)));have wf:=z474 (Ns:=ts.map za3) (s:=S) (c:=c) hno;have ws:=win_step (Ns:=ts.map za3) (s:=S) (c:=c);have t01:Tch [] h h1:=t0.trans' t1 fun b hb=>.inr (hB b hb)
  have hB1:∀b∈B1,h.next≤b:=fun b hb=>by
   rcases s1 b hb with hb|hb
   ·exact hB b hb
   ·exact Nat.le_trans t0.1 hb
  have hr16:remI .i64 (i:Int) 16=some ((i%16:Nat):Int):=by
   unfold remI;rw[if_neg (by decide),Int.tmod_eq_emod_of_nonneg (by omega)]
   congr 1
  rw[zc2];unfold z71
  ((with_reducible refine Wp.lett ?_))
  refine y9 (by rw[decide_eq_true_eq];omega) ?_
  (((with_reducible refine ye ?_ ?_ ?_);omega;omega))
  refine Wp.obind sl (Wp.callN e1 (Wp.obind (zd4 _ _) (Wp.obind (z4 _ _) (Wp.obind (zd3 _ _ _) (Wp.obind (z11 _) (Wp.obind (extT_2 _ _ _ _) (Wp.obind (z5 _) ?_)))))));refine y7 (Mem.nil [] h1) fun h2 M2=>?_;rw[ze];refine y10 M2 (feedC_len _) rfl (feedC_one _) fun h3 M3=>?_;have t3:=M3.tch;have t03:Tch [] h h3:=t01.trans t3;have m3:=m1.tch t3 (fun _ _=>by simp) (fun _ _=>by simp);have p1:=M3.at0.1;have hp1:=M3.at0.2.1;have hxM:∀{h4:AHeap} {rs:List zc7},Abs.Mem [] h3 h4 rs→h4.ex=[]:=fun M=>by rw[M.ex,t03.2.1,hX]
  have hTM:∀{h4:AHeap} {rs:List zc7},Abs.Mem [] h3 h4 rs→HasTz h4:=fun M=>(hT.tch t03 (by simp)).tch M.tch (by simp);have kpM:∀{h4:AHeap} {rs:List zc7},Abs.Mem [] h3 h4 rs→Slc h4.next h4 2 x0 (ps.map z413):=fun M=>Slc.stay kp (t03.trans M.tch) (Nat.le_refl _);have Mx:=Mem.nil [] h3;have b0:(((1:Nat):Int) != 1)=false:=rfl;cases hz:z113 (S++[c]) (gOf (S.length+1)) (S.length+1) (ts.map za3) with
  |some z=>
   rw[hz] at wf ws;have ws:z1f2 (z2dc (ts.map za3) S) c=(some (z.1,(z.2:Int) - (gOf (S.length+1):Int),(S.length+1) - gOf (S.length+1)),z2dc (ts.map za3) []):=ws;have hge:=hit_ge _ z hz;rw[ws] at p1 m3;rw[ws,Option.isSome_some]
   repeat(first|(with_reducible apply Wp.obind;exact z32 _)|((with_reducible apply y10 Mx);rfl;rfl;(rfl);clear Mx;intro _ Mx)|((with_reducible apply y7 Mx);clear Mx;intro _ Mx)|(with_reducible refine y8 (fun _ _=>?_))|((with_reducible refine ye ?_ ?_ ?_);omega;omega)|(with_reducible first|refine Wp.lett ?_|(apply Wp.obind;first|exact sl|exact A1)|(refine y9 ?_ ?_;rfl))|((with_reducible refine y6 ?_ ?_);first|(with_reducible assumption)|((with_reducible apply decide_eq_false);omega))|(with_reducible first|(apply Wp.callN;exact kw _)|refine yd (by assumption) ?_)|rw[ze])
   obtain⟨h9,e9,t9⟩:=z18d (n:=n) (d:=d) (s:=(S++[c]).drop (gOf (S.length+1))) hn hM (hxM Mx) (hTM Mx) (kpM Mx) (by omega);rw[z2c7,wf,Option.map_some,Option.isSome_some] at e9;refine Wp.callN e9 ?_;have M9:=Mx.keep t9;refine Wp.obind (zd4 _ _) (Wp.obind (z11 _) (Wp.obind (zd3 _ _ _) (Wp.obind (z5 _) ?_)));refine y10 M9 rfl rfl rfl fun h10 M10=>?_
   have ec:z3a7 (some (z.1,z.2 - gOf (S.length+1),S.length+1 - gOf (S.length+1)))=[.int .i64 (z.1:Int),.int .i64 ((z.2:Int) - (gOf (S.length+1):Int)),.int .i64 ((S.length+1 - gOf (S.length+1):Nat):Int)]:=by
    show [AV.int .i64 (z.1:Int),AV.int .i64 ((z.2 - gOf (S.length+1):Nat):Int),_]=_;rw[show ((z.2 - gOf (S.length+1):Nat):Int)=(z.2:Int) - (gOf (S.length+1):Int) by omega]
   rw[ec] at M10;have q10:=p1.tch M10.tch hp1 (by simp);have r1:z16 h10 3 (.ptr h1.next 0)=some [.int .i64 (z.1:Int),.int .i64 ((z.2:Int) - (gOf (S.length+1):Int)),.int .i64 ((S.length+1 - gOf (S.length+1):Nat):Int)]:=y12 q10 rfl;have r2:z16 h10 3 (.ptr h3.next 0)=some [.int .i64 (z.1:Int),.int .i64 ((z.2:Int) - (gOf (S.length+1):Int)),.int .i64 ((S.length+1 - gOf (S.length+1):Nat):Int)]:=y12 M10.at0.1 rfl;have q1:=eqHitS (z.1:Int) ((z.2:Int) - (gOf (S.length+1):Int)) ((S.length+1 - gOf (S.length+1):Nat):Int);have c1:z7 h10 (.ptr h1.next 2)=some (.int .i64 ((S.length+1 - gOf (S.length+1):Nat):Int)):=y5 q10 rfl;have m10:=m3.tch M10.tch (fun _ _=>by simp) (fun _ _=>by simp);have eb:=z290 (n:=n) (d:=d+5) m10;rw[show (z2dc (ts.map za3) []).2.1=[] by rw[z3bf]] at eb;have E:(!eqS ([]:Bytes) [])=false:=rfl;have b2:(!((true:Bool) == true))=false:=rfl;clear Mx M9
   repeat(first|(with_reducible refine y8 (fun _ _=>?_))|((with_reducible refine ye ?_ ?_ ?_);omega;omega)|(with_reducible first|refine Wp.lett ?_|(apply Wp.obind;first|exact r1|exact r2|exact q1|exact c1|exact z4 _ _|exact z32 _)|(refine y9 ?_ ?_;rfl))|((with_reducible refine y6 ?_ ?_);first|(with_reducible first|assumption|exact Bool.not_true)|((with_reducible apply z151);omega))|(with_reducible first|(apply Wp.callN;exact eb)|refine yd (by assumption) ?_))
   rw[el];have:=z1eb hn hM kp hX hT hs hnb hk k fu (i+1) [] B1 h10 (by omega) (by omega) (Nat.zero_le _) m10 z387 (t03.trans M10.tch) hB1;rw[List.drop_nil] at this;exact this
  |none=>
   rw[hz] at wf ws;have ws:z1f2 (z2dc (ts.map za3) S) c=(none,z2dc (ts.map za3) (S++[c])):=ws;rw[ws] at p1 m3;rw[ws,show (none:Option (Nat×Int×Nat)).isSome=false from rfl];have hno2:=z44b (c:=c) hno hz;have hl1:(S++[c]).length=S.length+1:=by rw[List.length_append,List.length_singleton]
   have b2:(!((false:Bool) == false))=false:=rfl
   have hb2:(z2dc (ts.map za3) (S++[c])).2.1=(S++[c]).drop (gOf (S.length+1)):=by
    unfold z2dc;rw[hl1]
   have E:(!eqS ((S++[c]).drop (gOf (S.length+1))) ((S++[c]).drop (gOf (S.length+1))))=false:=by rw[eqS_true.2 rfl];rfl
   have q1:=eqHitS 0 0 0
   have fin:∀h10,Tch [] h3 h10→Wp (z5f (world n (d+6)) x0 s (.ptr mb 0) k26 fu ((S++[c]).drop (gOf (S.length+1))) ((i+1:Nat):Int) h10) fun r _=>r=.ret (.bool true):=by
    intro h10 t10;have:=z1eb hn hM kp hX hT hs hnb hk k fu (i+1) (S++[c]) B1 h10 (by omega) (by omega) (by omega) (m3.tch t10 (fun _ _=>by simp) (fun _ _=>by simp)) hno2 (t03.trans t10) hB1;rw[hl1] at this;exact this
   by_cases ask:i%16=0∨s.length<i+3
   ·have asked : ∀ (h4 : AHeap), Abs.Mem [] h3 h4 [(h3.next, z3bc, [.int .i64 0, .int .i64 0, .int .i64 0])] → ∃ h9, world n (d + 6) 14 [x0, z17 ((S ++ [c]).drop (gOf (S.length + 1)))] h4 = some (.ret (.tup [.agg [.int .i64 0, .int .i64 0, .int .i64 0], .bool false]), h9) ∧ Tch [] h4 h9 := by
     intro h4 M4;obtain⟨h9,e9,t9⟩:=z18d (n:=n) (d:=d) (s:=(S++[c]).drop (gOf (S.length+1))) hn hM (hxM M4) (hTM M4) (kpM M4) (by omega);rw[z2c7,wf] at e9;exact⟨h9,e9,t9⟩
    by_cases a16:i%16=0
    ·repeat (first | (with_reducible apply Wp.obind; exact z32 _) | ((with_reducible apply y10 Mx); rfl; rfl; (rfl); clear Mx; intro _ Mx) | ((with_reducible apply y7 Mx); clear Mx; intro _ Mx) | (with_reducible refine y8 (fun _ _ => ?_)) | ((with_reducible refine ye ?_ ?_ ?_); omega; omega) | (with_reducible first | refine Wp.lett ?_ | (apply Wp.obind; first | exact sl | exact A1 | exact hr16)) | ((with_reducible refine y9 ?_ ?_); first | (with_reducible rfl) | ((with_reducible first | apply decide_eq_true | apply z13f | apply z73); omega)) | ((with_reducible refine y6 ?_ ?_); first | (with_reducible first | rfl | assumption) | ((with_reducible apply decide_eq_false); omega)) | (with_reducible first | (apply Wp.callN; exact kw _) | refine yd (by assumption) ?_) | rw [ze])
     obtain⟨h9,e9,t9⟩:=asked _ Mx;refine Wp.callN e9 ?_;have M9:=Mx.keep t9;refine Wp.obind (zd4 _ _) (Wp.obind (z11 _) (Wp.obind (zd3 _ _ _) (Wp.obind (z5 _) ?_)));refine y10 M9 rfl rfl rfl fun h10 M10=>?_;have q10:=p1.tch M10.tch hp1 (by simp);have r1:z16 h10 3 (.ptr h1.next 0)=some [.int .i64 0,.int .i64 0,.int .i64 0]:=y12 q10 rfl;have r2:z16 h10 3 (.ptr h3.next 0)=some [.int .i64 0,.int .i64 0,.int .i64 0]:=y12 M10.at0.1 rfl;have eb:=z290 (n:=n) (d:=d+5) (m3.tch M10.tch (fun _ _=>by simp) (fun _ _=>by simp));rw[hb2] at eb;clear Mx M9
     repeat(first|(with_reducible refine y8 (fun _ _=>?_))|((with_reducible refine ye ?_ ?_ ?_);omega;omega)|(with_reducible first|refine Wp.lett ?_|(apply Wp.obind;first|exact r1|exact r2|exact q1|exact z32 _)|(refine y6 ?_ ?_;first|rfl|assumption|exact Bool.not_true)|(apply Wp.callN;exact eb)|refine yd (by assumption) ?_))
     rw[el];exact fin h10 M10.tch
    ·have a3 : s.length < i + 3 := by omega
     repeat(first|(with_reducible apply Wp.obind;exact z32 _)|((with_reducible apply y10 Mx);rfl;rfl;(rfl);clear Mx;intro _ Mx)|((with_reducible apply y7 Mx);clear Mx;intro _ Mx)|(with_reducible refine y8 (fun _ _=>?_))|((with_reducible refine ye ?_ ?_ ?_);omega;omega)|(with_reducible first|refine Wp.lett ?_|(apply Wp.obind;first|exact sl|exact A1|exact hr16))|((with_reducible refine y9 ?_ ?_);((with_reducible first|apply decide_eq_true|apply z13f|apply z73);omega))|((with_reducible refine y6 ?_ ?_);first|(with_reducible first|rfl|assumption)|((with_reducible first|apply decide_eq_false|apply z82);omega))|(with_reducible first|(apply Wp.callN;exact kw _)|refine yd (by assumption) ?_)|rw[ze])
     obtain⟨h9,e9,t9⟩:=asked _ Mx;refine Wp.callN e9 ?_;have M9:=Mx.keep t9;refine Wp.obind (zd4 _ _) (Wp.obind (z11 _) (Wp.obind (zd3 _ _ _) (Wp.obind (z5 _) ?_)));refine y10 M9 rfl rfl rfl fun h10 M10=>?_;have q10:=p1.tch M10.tch hp1 (by simp);have r1:z16 h10 3 (.ptr h1.next 0)=some [.int .i64 0,.int .i64 0,.int .i64 0]:=y12 q10 rfl;have r2:z16 h10 3 (.ptr h3.next 0)=some [.int .i64 0,.int .i64 0,.int .i64 0]:=y12 M10.at0.1 rfl;have eb:=z290 (n:=n) (d:=d+5) (m3.tch M10.tch (fun _ _=>by simp) (fun _ _=>by simp));rw[hb2] at eb;clear Mx M9
     repeat(first|(with_reducible refine y8 (fun _ _=>?_))|((with_reducible refine ye ?_ ?_ ?_);omega;omega)|(with_reducible first|refine Wp.lett ?_|(apply Wp.obind;first|exact r1|exact r2|exact q1|exact z32 _)|(refine y6 ?_ ?_;first|rfl|assumption|exact Bool.not_true)|(apply Wp.callN;exact eb)|refine yd (by assumption) ?_))
     rw[el];exact fin h10 M10.tch
   ·have a16 : i % 16 ≠ 0 := fun h => ask (.inl h)
    have a3:¬s.length<i+3:=fun h=>ask (.inr h);have fr:∀{h4:AHeap},Abs.Mem [] h3 h4 [(h3.next,z3bc,[.int .i64 0,.int .i64 0,.int .i64 0])]→z16 h4 3 (.ptr h1.next 0)=some [.int .i64 0,.int .i64 0,.int .i64 0]:=fun M=>y12 (p1.tch M.tch hp1 (by simp)) rfl
    have fb:∀{h4:AHeap},Abs.Mem [] h3 h4 [(h3.next,z3bc,[.int .i64 0,.int .i64 0,.int .i64 0])]→world n (d+6) 21 [.ptr mb 0] h4=some (.ret (z17 ((S++[c]).drop (gOf (S.length+1)))),h4):=fun M=>by
     have eb:=z290 (n:=n) (d:=d+5) (m3.tch M.tch (fun _ _=>by simp) (fun _ _=>by simp));rw[hb2] at eb;exact eb
    repeat(first|(with_reducible apply Wp.obind;exact z32 _)|((with_reducible apply y14 Mx);rfl)|((with_reducible apply y10 Mx);rfl;rfl;(rfl);clear Mx;intro _ Mx)|((with_reducible apply y7 Mx);clear Mx;intro _ Mx)|(with_reducible refine y8 (fun _ _=>?_))|((with_reducible refine ye ?_ ?_ ?_);omega;omega)|(with_reducible first|refine Wp.lett ?_|(apply Wp.obind;first|exact sl|exact A1|exact hr16|exact fr Mx|exact q1))|((with_reducible refine y6 ?_ ?_);first|(with_reducible first|rfl|assumption|exact Bool.not_true)|((with_reducible first|apply decide_eq_false|apply z82);omega))|(with_reducible first|(apply Wp.callN;first|exact kw _|exact fb Mx)|refine yd (by assumption) ?_)|rw[ze])
    rw[el];exact fin _ Mx.tch
end
set_option maxRecDepth 100000 in
theorem z283(h:AHeap)(hX:h.ex=[])(hT:HasTz h)(xs:List AV)(hP:z400 Tryd.prog h.next h 12 [22,9] xs):∃h',Says Tryd.prog 6 xs h (.ret (.bool true)) h':=by
 obtain⟨x0,_,rfl,hp0,hP⟩:=z3b4 hP;obtain⟨_,_,rfl,hp1,hP⟩:=z3b4 hP
 obtain rfl:=args0 hP
 obtain⟨ps,kp,hps⟩:=args_pats hp0;obtain⟨s,rfl,hsc⟩:=hp1.str Tryd.underlying9;obtain⟨n,hn⟩:∃n,18446744073709551620<n:=⟨_,Nat.lt_succ_self _⟩;obtain⟨D,hD⟩:∃D,2000≤D:=⟨2000,Nat.le_refl _⟩
 suffices hK:Wp (zdd (world n (D+6)) n x0 s h) fun r _=>r=.ret (.bool true) by
  obtain⟨_,h',e,rfl⟩:=hK;exact⟨h',z1df (world_ok n (D+6)) e⟩
 unfold zdd;have ll:=z57 s;refine Wp.callN (works_w (d:=D+5) hn (by omega) hT hX) (Wp.obind (z5 _) ?_)
 ((with_reducible refine Wp.lett ?_))
 refine y6 rfl ?_
 by_cases hM:∃ts,May n (D+3) ps ts
 ·obtain ⟨ts, hM⟩ := hM
  obtain⟨h1,mb,ab,S,nbs,e1,m1,t1,g1,g1b,_,_⟩:=new_ok (by omega) hM hX kp
  by_cases hbig:600<s.length
  ·repeat (first | (with_reducible first | refine y8 (fun _ _ => ?_) | refine Wp.lett ?_ | (apply Wp.obind; first | exact z4 _ _ | exact zd4 _ _ | exact zd3 _ _ _)) | ((with_reducible refine y9 ?_ ?_); ((with_reducible first | apply decide_eq_true | apply z13f); omega)) | ((with_reducible refine y6 ?_ ?_; apply z151); omega) | (with_reducible first | (apply Wp.callN; exact e1) | refine yd (by assumption) ?_))
   exact Wp.ret rfl
  repeat(first|(with_reducible first|(first|refine yf (fun _ _=>?_)|refine y8 (fun _ _=>?_))|refine Wp.lett ?_|(apply Wp.obind;first|exact z4 _ _|exact zd4 _ _|exact zd3 _ _ _))|((with_reducible refine y6 ?_ ?_);((with_reducible first|apply decide_eq_false|apply z151);omega))|(with_reducible first|(apply Wp.callN;exact e1)|refine yd (by assumption) ?_))
  rename_i k26 ek;rw[z473] at m1;have:=z1eb (n:=n) (d:=D) (h:=h) (s:=s) (k26:=k26) hn hM kp hX hT (by omega) g1b (fun H=>by rw[ek];exact Wp.ret rfl) s.length n 0 [] S h1 (by omega) (Nat.zero_add _) (Nat.le_refl _) m1 z387 t1 g1;rw[List.drop_nil] at this;exact this
 ·obtain ⟨h1, e1, t1⟩ := new_bad hn (by omega) hM hX kp hps
  repeat(first|(with_reducible first|refine y8 (fun _ _=>?_)|refine Wp.lett ?_|(apply Wp.obind;first|exact z4 _ _|exact zd4 _ _|exact zd3 _ _ _))|((with_reducible refine y9 ?_ ?_);first|(with_reducible rfl)|((with_reducible apply z13f);omega))|(with_reducible first|(apply Wp.callN;exact e1)|refine yd (by assumption) ?_))
  exact Wp.ret rfl
end Go.Proofs.YtcahhjjnihipdaaDoor
