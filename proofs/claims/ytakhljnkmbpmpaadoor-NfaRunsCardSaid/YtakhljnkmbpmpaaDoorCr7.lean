/- What nfaRuns_proved stands on, part 7 of 11. -/
import Derived.Test.YtakhljnkmbpmpaaDoorCr6
namespace Go.Proofs.YtakhljnkmbpmpaaDoor
open Go.RowKit Abs
theorem z12f{x y:Nat}(hx:x<18446744073709551616)(hy:y<18446744073709551616):orI .u64 (x:Int) (y:Int)=((x|||y:Nat):Int):=by
 have e:(BitVec.ofInt 64 (x:Int)|||BitVec.ofInt 64 (y:Int)).toNat=x|||y:=by
  rw[BitVec.toNat_or,BitVec.toNat_ofInt,BitVec.toNat_ofInt]
  congr 1<;>omega
 unfold orI;show IntKind.u64.wrap (((BitVec.ofInt 64 (x:Int)|||BitVec.ofInt 64 (y:Int)).toNat:Nat):Int)=_;rw[e,z83];have:=zb1 hx hy;omega
theorem xorI_nat{x y:Nat}(hx:x<18446744073709551616)(hy:y<18446744073709551616):xorI .u64 (x:Int) (y:Int)=((x ^^^ y:Nat):Int):=by
 have e:(BitVec.ofInt 64 (x:Int) ^^^ BitVec.ofInt 64 (y:Int)).toNat=x ^^^ y:=by
  rw[BitVec.toNat_xor,BitVec.toNat_ofInt,BitVec.toNat_ofInt]
  congr 1<;>omega
 unfold xorI;show IntKind.u64.wrap (((BitVec.ofInt 64 (x:Int) ^^^ BitVec.ofInt 64 (y:Int)).toNat:Nat):Int)=_;rw[e,z83];have:=Nat.xor_lt_two_pow (n:=64) (x:=x) (y:=y) (by omega) (by omega);omega
theorem z1f5{k:Nat}(h:k<64):shlI .u64 1 (k:Int)=some ((2 ^ k:Nat):Int):=by
 unfold shlI;rw[if_neg (by omega)]
 have e:min ((k:Int).toNat) IntKind.u64.bits=k:=by
  show min ((k:Int).toNat) 64=k;omega
 rw[e,z83,Int.one_mul];have:=z146 h;have e2:((2:Int) ^ k)=((2 ^ k:Nat):Int):=by push_cast;rfl
 rw[e2]
 generalize 2 ^ k=z at this
 congr 1
 omega
theorem z361{c:Nat}(h:c<1000):z44a .i64 (c:Int) 64=some ((c/64:Nat):Int):=by
 unfold z44a;rw[if_neg (by decide),Int.tdiv_eq_ediv_of_nonneg (by omega),z29c (by omega) (by omega)]
 congr 1
theorem z353{c:Nat}:z448 .i64 (c:Int) 64=some ((c%64:Nat):Int):=by
 unfold z448;rw[if_neg (by decide),Int.tmod_eq_emod_of_nonneg (by omega)]
 congr 1
theorem zc7{n b o i:Nat}(h:i<n):z20b n 1 (.ptr b o) (i:Int)=some (.ptr b (o+i)):=by
 have e:Nat.blt i n=true:=by simpa using h
 show (match Nat.blt i n with|true=>some (AV.ptr b (o+i*1))|false=>none)=_;rw[e,Nat.mul_one]
section
variable {n d b o p:Nat}{h:AHeap}{u:z11}{Q:ARes→AHeap→Prop}{pre post:List AV}{w:List Nat}{e:TypeId}
theorem z148{i:Nat}(hi:i<w.length):(pre++(z1c w++post))[pre.length+i]? =some (.int .u64 (w.getD i 0:Int)):=by
 rw[List.getElem?_append_right (by omega),show pre.length+i - pre.length=i by omega,List.getElem?_append_left (by rw[z38];exact hi)];unfold z1c;rw[List.getElem?_map,List.getD_eq_getElem?_getD,List.getElem?_eq_getElem hi];rfl
theorem z195{i x:Nat}(hi:i<w.length):(pre++(z1c w++post)).set (pre.length+i) (.int .u64 (x:Int))=pre++(z1c (w.set i x)++post):=by
 rw[List.set_append_right _ _ (by omega),show pre.length+i - pre.length=i by omega,List.set_append_left _ _ (by rw[z38];exact hi)];unfold z1c;rw[List.map_set]
theorem z3a9{k4:AHeap→R}(hpre:pre.length=o):∀(m f lo:Nat) (w:List Nat) (H:AHeap),m<f→lo+m≤256→WordsOk w→RowH H b e (pre++(z1c w++post))→
   (∀H',RowH H' b e (pre++(z1c (z12a w lo m)++post))→Tch [b] H H'→Wp (k4 H') Q)→Wp (z96 (.ptr b o) ((lo+m:Nat) - 1:Int) k4 f (lo:Int) H) Q
 |_,0,_,_,_,hf,_,_,_,_=>by omega
 |0,f+1,lo,w,H,hf,hm,hw,k,hk=>by
  rw[ze5];unfold z8c
  repeat(first|((with_reducible refine yf ?_ ?_ ?_);omega;omega)|(with_reducible refine Wp.lett ?_)|((with_reducible refine y7 ?_ ?_;apply decide_eq_false);omega))
  exact hk H k (Tch.refl _ _)
 |m+1,f+1,lo,w,H,hf,hm,hw,k,hk=>by
  rw[ze5];unfold z8c;have hi:lo/64<4:=by omega
  have hl:lo/64<w.length:=by rw[hw.len];exact hi
  have hc:=z148 (pre:=pre) (post:=post) hl;have e1:=z361 (c:=lo) (by omega);have e2:=zc7 (b:=b) (o:=o) hi;have e3:=z353 (c:=lo);have e4:=z1f5 (k:=lo%64) (Nat.mod_lt _ (by decide));rw[hpre] at hc;have e5:=y10 k hc
  repeat(first|((with_reducible refine yf ?_ ?_ ?_);omega;omega)|(with_reducible first|refine Wp.lett ?_|(apply Wp.obind;first|exact e1|exact e2|exact e3|exact e4|exact e5|exact z5 _ _|exact z3e _ _))|((with_reducible refine y8 ?_ ?_;apply decide_eq_true);omega))
  rw[z12f (hw.get _) (z146 (Nat.mod_lt _ (by decide)))];refine Wp.st1 k (by simp[z38];omega) rfl fun h' k' t' _=>?_;rw[←hpre,z195 hl] at k'
  repeat(((with_reducible refine yf ?_ ?_ ?_);omega;omega))
  have eh:((lo+(m+1):Nat) - 1:Int)=((lo+1+m:Nat) - 1:Int):=by omega
  have el:(lo:Int)+1=((lo+1:Nat):Int):=by omega
  rw[eh,el];exact z3a9 hpre m f (lo+1) (z485 w lo) h' (by omega) (by omega) (z2fa hw lo) k' fun H' k2 t2=>hk H' k2 (t'.trans t2)
theorem z2fb(hpre:pre.length=o)(hn:300<n){lo hi:Nat}(h1:lo≤hi)(h2:hi<256)(hw:WordsOk w)(k:RowH h b e (pre++(z1c w++post))):∃h',world n (d+1) 69 [.ptr b o,.int .u8 (lo:Int),.int .u8 (hi:Int)] h=some (.ret (.tup []),h')∧RowH h' b e (pre++(z1c (z12a w lo (hi+1 - lo))++post))∧Tch [b] h h':=by
 apply Wp.ex;rw[z25d];unfold za2
 (((with_reducible refine yf ?_ ?_ ?_);omega;omega))
 ((with_reducible refine y12 (fun _ _=>?_)))
 rename_i k4 ek4;have eh:(hi:Int)=((lo+(hi+1 - lo):Nat) - 1:Int):=by omega
 rw[eh];refine z3a9 hpre (hi+1 - lo) n lo w h (by omega) (by omega) hw k fun H' k2 t2=>?_
 repeat((with_reducible refine y21 (by assumption) ?_))
 exact Wp.ret ⟨rfl,k2,t2⟩
end
theorem Step.ok_of{b p:Nat}{u:z11}{h:AHeap}{x:R}{v:AV}(k:Wp x fun r h'=>r=.ret v∧Rd h' b u p∧Tch [b] h h'):Step b u h x (.ok (v,p)):=k.ex
theorem Step.err_of{b q:Nat}{e:Int}{u:z11}{h:AHeap}{x:R}(k:Wp x fun r h'=>r=.panic (z28d e q)∧∃p,Rd h' b u p∧Tch [b] h h'):Step b u h x (.error (e,q)):=by
 obtain⟨_,h',e1,rfl,p,k1,k2⟩:=k;exact⟨h',p,e1,k1,k2⟩
theorem y2b{b:Nat}{u:z11}{h:AHeap}{x:R}{k:AV→AHeap→R}{Q:ARes→AHeap→Prop}{v:AV}{p:Nat}(hx:Step b u h x (.ok (v,p)))(hk:∀h',Rd h' b u p→Tch [b] h h'→Wp (k v h') Q):Wp (callK x k) Q:=by
 obtain⟨h',e,k1,k2⟩:=hx;exact Wp.callK e (hk h' k1 k2)
theorem y2a{b:Nat}{u:z11}{h:AHeap}{x:R}{k:AV→AHeap→R}{Q:ARes→AHeap→Prop}{v:AV}{p:Nat}(hx:Step b u h x (.ok (v,p)))(hk:∀h',Rd h' b u p→Tch [b] h h'→Wp (k v h') Q):Wp (callN x k) Q:=by
 obtain⟨h',e,k1,k2⟩:=hx;exact Wp.callN e (hk h' k1 k2)
theorem y48{b q:Nat}{e:Int}{u:z11}{h:AHeap}{x:R}{k:AV→AHeap→R}{Q:ARes→AHeap→Prop}(hx:Step b u h x (.error (e,q)))(hk:∀h' p,Rd h' b u p→Tch [b] h h'→Q (.panic (z28d e q)) h'):Wp (callK x k) Q:=by
 obtain⟨h',p,e1,k1,k2⟩:=hx;exact y1f e1 (hk h' p k1 k2)
theorem z248{S:List Nat}{h h':AHeap}{b:Nat}(t:Tch S h h')(hb:b<h.next):b<h'.next:=Nat.lt_of_lt_of_le hb t.1
section
variable {n d b p:Nat}{h:AHeap}{u:z11}{Q:ARes→AHeap→Prop}
theorem take_r(k:Rd h b u p)(hb:b<h.next)(hp:p≤u.length)(hu:u.length≤1000000)(c:Nat):Step b u h (world n (d+4) 74 [.ptr b 0,.int .u8 (c:Int)] h) (if at? u p=some c then .ok (.tup [],p+1) else .error (6,p)):=by
 have hs:=z93 (n:=n) (d:=d) k hb hp hu c
 by_cases hc:at? u p=some c
 ·rw [if_pos hc, decide_eq_true hc] at hs
  rw[if_pos hc];refine Step.ok_of ?_;rw[z142];unfold z5a;refine y2a hs fun h' k1 k2=>?_
  repeat(with_reducible first|refine y12 (fun _ _=>?_)|refine Wp.lett ?_|(apply Wp.obind;exact z6 _)|(refine y7 ?_ ?_;exact Bool.not_true)|refine y21 (by assumption) ?_)
  exact Wp.ret ⟨rfl,k1,k2⟩
 ·rw [if_neg hc, decide_eq_false hc] at hs
  rw[if_neg hc];refine Step.err_of ?_;rw[z142];unfold z5a;refine y2a hs fun h' k1 k2=>?_;have hr:=z29f (n:=n) (d:=d+2) (h:=h') 6 p
  repeat(first|(with_reducible first|refine y12 (fun _ _=>?_)|refine Wp.lett ?_)|((with_reducible apply Wp.obind);first|(with_reducible first|exact z5 _ _|exact z6 _|exact z3e _ _|exact ze _ _ _)|((with_reducible apply y10);(with_reducible assumption);rfl))|(with_reducible refine y8 ?_ ?_;exact Bool.not_false))
  exact y1f hr ⟨rfl,p,k1,k2⟩
end
abbrev zf5:Nat:=32
theorem z2a7:∀(w:List Nat),y3d (z1c w++[.nsl])=true
 |[]=>rfl
 |_::w=>z2a7 w
theorem z19d(op:Nat)(w:List Nat):(AV.agg (z25 op w .nsl)).scal=true:=z2a7 w
theorem bldOver0(op:Int):z27a Tryd.prog z17 [(0,.int .i64 op),(2,.nsl)]=some [.int .i64 op,.int .u64 0,.int .u64 0,.int .u64 0,.int .u64 0,.nsl]:=by kernel_rfl
theorem z38d(op:Int)(c m:Nat):z27a Tryd.prog z17 [(0,.int .i64 op),(2,.sl c 0 m 6)]=some [.int .i64 op,.int .u64 0,.int .u64 0,.int .u64 0,.int .u64 0,.sl c 0 m 6]:=by kernel_rfl
theorem bldSet(a b c d:Int):z27a Tryd.prog z17 [(0,.int .i64 2),(1,.agg [.int .u64 a,.int .u64 b,.int .u64 c,.int .u64 d])]=some [.int .i64 2,.int .u64 a,.int .u64 b,.int .u64 c,.int .u64 d,.nsl]:=by kernel_rfl
theorem bldNode(h:AHeap)(op a b c d:Int)(kv:AV):z122 Tryd.prog h zf5 1 [(0,.agg [.int .i64 op,.int .u64 a,.int .u64 b,.int .u64 c,.int .u64 d,kv])]=ze6 h z17 [.int .i64 op,.int .u64 a,.int .u64 b,.int .u64 c,.int .u64 d,kv] 1 6:=by kernel_rfl
theorem z2a8{w:List Nat}(k:WordsOk w):∃a b c d,w=[a,b,c,d]:=by
 match w,k.len with
 |[a,b,c,d],_=>exact⟨a,b,c,d,rfl⟩
theorem NodeT.bld{t:Nd}{c:List AV}{T:List z9e}(k:NodeT t c T)(h:AHeap):z122 Tryd.prog h zf5 1 [(0,.agg c)]=ze6 h z17 c 1 6:=by
 cases k with
 |mk hw g ks=>
  obtain⟨a,b,c,d,rfl⟩:=z2a8 hw;exact bldNode h _ _ _ _ _ _
theorem setBld{w:List Nat}(k:WordsOk w):z27a Tryd.prog z17 [(0,.int .i64 2),(1,.agg (z1c w))]=some (z25 2 w .nsl):=by
 obtain⟨a,b,c,d,rfl⟩:=z2a8 k;exact bldSet _ _ _ _
section
variable {n d b p:Nat}{h h0:AHeap}{u:z11}{Q:ARes→AHeap→Prop}{S:List Nat}{xs T T0 T1:List z9e}{kc:List (List AV)}{kv:AV}{l:List Nd}
theorem overBld(g:GrowT z17 6 kc kv T)(op:Nat):z27a Tryd.prog z17 [(0,.int .i64 (op:Int)),(2,kv)]=some (z25 op zeroW kv):=by
 rcases g.2 with⟨_,rfl,_⟩|⟨_,c,rfl,_⟩
 ·exact bldOver0 _
 ·exact z38d _ _ _
theorem zf0{op:Nat}{w:List Nat}(hw:WordsOk w):(z25 op w kv).length=6:=by simp[z25,z38,hw.len]
theorem z57{op:Nat}{w:List Nat}(hk:kv.one=true):(z25 op w kv).all AV.one=true:=by
 simp only[z25,List.all_cons,List.all_append,z193,hk,List.all_nil,Bool.and_true];rfl
theorem z1e1(hn:300<n){c:Nat}(hc:c<256):world n (d+2) 64 [.int .u8 (c:Int)] h=some (.ret (.agg (z25 2 (z12a zeroW c 1) .nsl)),h):=by
 apply Wp.eq;rw[z25b];refine Wp.gc ?_
 suffices hK:Wp (z8a (world n (d+1)) n c h) fun r h'=>r=.ret (.agg (z25 2 (z12a zeroW c 1) .nsl))∧Tch [] h h' from hK.mono fun r h' ⟨e,t⟩=>⟨t.above,by rw[e];exact z19d _ _,e,rfl⟩
 unfold z8a;have Mx:=Mem.nil [] h
 repeat(first|((with_reducible apply y11 Mx);rfl;rfl;(rfl);clear Mx;intro _ Mx)|((with_reducible apply yc Mx);clear Mx;intro _ Mx)|rw[z8])
 have k0:RowH _ _ _ ([AV.int .i64 2]++(z1c zeroW++[.nsl])):=Mx.at0.1;obtain⟨h5,e5,k5,t5⟩:=z2fb (n:=n) (d:=d) rfl hn (Nat.le_refl c) hc z3b k0;refine Wp.callN e5 ?_;have Mz:=y1b (xs:=[]) Mx t5 k5;clear Mx;have Mx:=Mz;clear Mz k0 k5;rw[show c+1 - c=1 by omega] at Mx;have ho:=z57 (kv:=.nsl) (op:=2) (w:=z12a zeroW c 1) rfl;have hl:([AV.int .i64 2]++(z1c (z12a zeroW c 1)++[AV.nsl])).length=6:=zf0 (op:=2) (zae 1 z3b c);refine y14 Mx hl ?_;refine y1c Mx hl rfl ho fun h6 Mz=>?_;refine y1a Mz hl ?_;exact Wp.ret ⟨rfl,Mz.tch⟩
theorem z2f8(hn:300<n):world n (d+2) 63 [] h=some (.ret (.agg (z25 2 (z399) .nsl)),h):=by
 apply Wp.eq;rw[z25c];refine Wp.gc ?_
 suffices hK:Wp (z8b (world n (d+1)) n h) fun r h'=>r=.ret (.agg (z25 2 (z399) .nsl))∧Tch [] h h' from hK.mono fun r h' ⟨e,t⟩=>⟨t.above,by rw[e];exact z19d _ _,e,rfl⟩
 unfold z8b;have Mx:=Mem.nil [] h
 repeat(first|((with_reducible apply y11 Mx);rfl;rfl;(rfl);clear Mx;intro _ Mx)|((with_reducible apply yc Mx);clear Mx;intro _ Mx)|rw[z8])
 have k0:RowH _ _ _ ([AV.int .i64 2]++(z1c zeroW++[.nsl])):=Mx.at0.1;obtain⟨h5,e5,k5,t5⟩:=z2fb (n:=n) (d:=d) (lo:=0) (hi:=255) rfl hn (by omega) (by omega) z3b k0;refine Wp.callN e5 ?_;have Mz:=y1b (xs:=[]) Mx t5 k5;clear Mx;have Mx:=Mz;clear Mz k0 k5;rw[anyW_eq] at Mx;have ho:=z57 (kv:=.nsl) (op:=2) (w:=z399) rfl;have hl:([AV.int .i64 2]++(z1c (z399)++[AV.nsl])).length=6:=zf0 (op:=2) z22e;refine y14 Mx hl ?_;refine y1c Mx hl rfl ho fun h6 Mz=>?_;refine y1a Mz hl ?_;exact Wp.ret ⟨rfl,Mz.tch⟩
theorem z450(g:GrowT z17 6 kc kv T)(op:Nat):∃h',world n (d+1) 62 [.int .i64 (op:Int),kv] h=some (.ret (.agg (z25 op zeroW kv)),h')∧Tch [] h h':=by
 apply Wp.ex;rw[z300];unfold z100;have Mx:=Mem.nil [] h;have hl:=zf0 (kv:=kv) (op:=op) z3b;have ho:=z57 (op:=op) (w:=zeroW) g.one.1;have hb:=overBld g op
 repeat(first|((with_reducible apply y14 Mx);rfl)|((with_reducible apply y11 Mx);rfl;rfl;((with_reducible assumption));clear Mx;intro _ Mx)|((with_reducible apply yc Mx);clear Mx;intro _ Mx)|(with_reducible apply Wp.obind;exact hb)|rw[z8])
 exact Wp.ret ⟨rfl,Mx.tch⟩
theorem z223(M:Mem S h0 h (xs++(T0++T1))):Mem S h0 h (xs++T1):=Mem.drop (xs:=T0) (M.perm (List.perm_append_comm_assoc T0 xs T1))
theorem idx0(c m:Nat):ze8 6 (.sl c 0 (m+1) 6) 0=some (.ptr c 0):=by
 have:=idxP_sl (sz:=6) (b:=c) (o:=0) (n:=m+1) (k:=6) (i:=0) (by omega)
 simpa using this
theorem z227{c:List AV}(g:GrowT z17 6 [c] kv T0):∃q,kv=.sl q 0 1 6∧T0=[(q,z17,c)]:=by
 rcases g.2 with⟨hh,_⟩|⟨_,q,rfl,rfl⟩
 ·cases hh
 ·exact⟨q,rfl,by simp⟩
theorem inRow_r(Mx:Mem S h0 h (xs++(T0++T1)))(g:GrowT z17 6 kc kv T0)(k:KidsT l kc T1):∃c T h',world n (d+2) 60 [kv] h=some (.ret (.agg c),h')∧NodeT (z1a0 3 l) c T∧Mem S h0 h' (xs++T):=by
 have hkl:=k.len
 match l,k,hkl with
 |[],k,hkl=>
  cases k
  rcases g.2 with⟨_,rfl,rfl⟩|⟨hh,_⟩
  ·refine ⟨z25 1 zeroW .nsl, [], ?_⟩
   suffices hK:∃h',world n (d+2) 60 [.nsl] h=some (.ret (.agg (z25 1 zeroW .nsl)),h')∧Mem S h0 h' (xs++([]++[])) by
    obtain⟨h',e,M'⟩:=hK;exact⟨h',e,y19 1 z3b,M'⟩
   apply Wp.ex;rw[z169];unfold z95;have hlen:z249 .nsl=some 0:=rfl
   repeat(first|((with_reducible apply y14 Mx);rfl)|((with_reducible apply y11 Mx);rfl;rfl;(rfl);clear Mx;intro _ Mx)|((with_reducible apply yc Mx);clear Mx;intro _ Mx)|(with_reducible first|refine Wp.lett ?_|(apply Wp.obind;exact hlen))|((with_reducible refine y8 ?_ ?_;apply z28);omega)|rw[z8])
   exact Wp.ret ⟨rfl,Mx.pop⟩
  ·exact absurd rfl hh
 |[t],k,hkl=>
  obtain⟨c,rfl,kt⟩:=k.one;obtain⟨q,rfl,rfl⟩:=z227 g;refine⟨c,T1,?_⟩
  suffices hK:∃h',world n (d+2) 60 [.sl q 0 1 6] h=some (.ret (.agg c),h')∧Mem S h0 h' (xs++([(q,z17,c)]++T1)) by
   obtain⟨h',e,M'⟩:=hK;exact⟨h',e,kt,z223 M'⟩
  apply Wp.ex;rw[z169];unfold z95;have hlen:z249 (.sl q 0 1 6)=some 1:=rfl;have ei:ze8 6 (.sl q 0 1 6) 0=some (.ptr q 0):=idx0 q 0
  repeat(first|((with_reducible apply yc Mx);clear Mx;intro _ Mx)|(with_reducible first|refine Wp.lett ?_|(apply Wp.obind;first|exact hlen|exact ei))|((with_reducible refine y8 ?_ ?_;apply z28);omega)|((with_reducible refine y7 ?_ ?_;apply z2e);omega)|rw[z8])
  refine Wp.obind (RowH.ldAll (Mem.at (xs:=_::xs) Mx).1 kt.len) ?_;refine y11 Mx kt.len rfl kt.one fun h6 Mz=>?_;refine y14 Mz kt.len ?_;exact Wp.ret ⟨rfl,Mz.pop⟩
 |t::t'::ts,k,hkl=>
  refine⟨z25 3 zeroW kv,T0++T1,?_⟩
  suffices hK:∃h',world n (d+2) 60 [kv] h=some (.ret (.agg (z25 3 zeroW kv)),h')∧Mem S h0 h' (xs++(T0++T1)) by
   obtain⟨h',e,M'⟩:=hK;exact⟨h',e,NodeT.mk z3b g k,M'⟩
  apply Wp.ex;rw[z169];unfold z95;have hlen:=g.len;simp only[List.length_cons] at hkl;have hl:=zf0 (kv:=kv) (op:=3) z3b;have ho:=z57 (op:=3) (w:=zeroW) g.one.1
  repeat(first|((with_reducible refine Wp.mcall (z450 (n:=n) (d:=d) g 3) Mx (fun _ Mz _=>?_));clear Mx;have Mx:=Mz;clear Mz)|((with_reducible apply y14 Mx);rfl)|((with_reducible apply y11 Mx);rfl;rfl;((with_reducible assumption));clear Mx;intro _ Mx)|((with_reducible apply yc Mx);clear Mx;intro _ Mx)|(with_reducible first|refine Wp.lett ?_|(apply Wp.obind;first|exact hlen|exact z13 _))|((with_reducible refine y7 ?_ ?_;apply z2e);omega)|rw[z8])
  exact Wp.ret ⟨rfl,Mx.pop⟩
end
abbrev TRd:Nat:=76
abbrev z396:Nat:=31
def byteR:Except Nat (Nat×Nat)→Except (Int×Nat) (AV×Nat)
 | .ok (c,j)=>.ok (.int .u8 (c:Int),j)
 | .error q=>.error (6,q)
noncomputable def setR:Except Nat (List Nat×Nat)→Except (Int×Nat) (AV×Nat)
 | .ok (w,j)=>.ok (.agg (z1c w),j)
 | .error q=>.error (6,q)
section
variable {n d b p q i:Nat}{h h0:AHeap}{u:z11}{Q:ARes→AHeap→Prop}{S:List Nat}{xs:List z9e}{w:List Nat}
theorem at?_256{c:Nat}(h:at? u i=some c):c<256:=by
 obtain⟨hp,rfl⟩:=at?_some h;exact UInt8.toNat_lt _
theorem z13e{c j:Nat}(h:z1cb u i=.ok (c,j)):c<256∧i<j∧j≤u.length:=by
 unfold z1cb at h
 split at h
 ·cases h
 ·rename_i c' hc
  obtain⟨hp,_⟩:=at?_some hc
  split at h
  ·split at h
   ·cases h
   ·rename_i e he
    obtain⟨hp2,_⟩:=at?_some he;cases h;exact⟨at?_256 he,by omega,by omega⟩
  ·split at h
   ·cases h
   ·cases h
    exact⟨at?_256 hc,by omega,by omega⟩
theorem z3c7{q:Nat}(hi:i≤u.length)(h:z1cb u i=.error q):q≤u.length:=by
 unfold z1cb at h
 split at h
 ·cases h
  exact hi
 ·rename_i c' hc
  obtain⟨hp,_⟩:=at?_some hc
  split at h
  ·split at h
   ·cases h
    omega
   ·cases h
  ·split at h
   ·cases h
    omega
   ·cases h
theorem z165{w':List Nat}{j:Nat}(hw:WordsOk w)(h:z94 u w i=.ok (w',j)):WordsOk w'∧i<j∧j≤u.length:=by
 unfold z94 at h
 split at h
 ·cases h
 ·rename_i c j' h1
  obtain⟨_,h2,h3⟩:=z13e h1
  split at h
  ·split at h
   ·cases h
   ·rename_i e k h4
    obtain⟨_,h5,h6⟩:=z13e h4
    split at h
    ·cases h
    ·cases h
     exact⟨zae _ hw _,by omega,h6⟩
  ·cases h
   exact⟨zae _ hw _,h2,h3⟩
theorem z1b5{q:Nat}(hi:i≤u.length)(h:z94 u w i=.error q):q≤u.length:=by
 unfold z94 at h
 split at h
 ·rename_i h1
  cases h;exact z3c7 hi h1
 ·rename_i c j' h1
  split at h
  ·rename_i h45
   obtain⟨hp,_⟩:=at?_some h45
   split at h
   ·rename_i h4
    cases h;exact z3c7 (by omega) h4
   ·rename_i e k h4
    obtain⟨_,h5,h6⟩:=z13e h4
    split at h
    ·cases h
     omega
    ·cases h
  ·cases h
theorem z185(k:Rd h b u i)(hb:b<h.next)(hi:i≤u.length)(hu:u.length≤1000000):Step b u h (world n (d+3) 78 [.ptr b 0] h) (byteR (z1cb u i)):=by
 have hx:=zac (n:=n) (d:=d) k hb hi hu;unfold z1cb;cases hc:at? u i with
 |none=>
  rw[hc] at hx;refine Step.err_of ?_;rw[z4c];unfold z22;exact y48 hx fun h' p' k1 k2=>⟨rfl,p',k1,k2⟩
 |some c=>
  rw[hc] at hx;obtain⟨hp,_⟩:=at?_some hc;have h256:=at?_256 hc
  by_cases h92:c=92
  ·show Step b u h _ (byteR (if c = 92 then _ else _))
   rw[if_pos h92];cases he:at? u (i+1) with
   |none=>
    refine Step.err_of ?_;rw[z4c];unfold z22;refine y2b hx fun h1 k1 t1=>?_;have hx2:=zac (n:=n) (d:=d) k1 (z248 t1 hb) (by omega) hu;rw[he] at hx2
    repeat(first|(with_reducible first|refine Wp.lett ?_|(apply Wp.obind;exact z5 _ _))|((with_reducible refine y8 ?_ ?_;apply z28);omega))
    exact y48 hx2 fun h' p' k2 t2=>⟨rfl,p',k2,t1.trans t2⟩
   |some e=>
    refine Step.ok_of ?_;rw[z4c];unfold z22;refine y2b hx fun h1 k1 t1=>?_;have hx2:=zac (n:=n) (d:=d) k1 (z248 t1 hb) (by omega) hu;rw[he] at hx2
    repeat(first|(with_reducible first|refine Wp.lett ?_|(apply Wp.obind;exact z5 _ _))|((with_reducible refine y8 ?_ ?_;apply z28);omega))
    refine y2b hx2 fun h2 k2 t2=>?_
    repeat(((with_reducible apply Wp.obind);(with_reducible exact z5 _ _)))
    exact Wp.ret ⟨rfl,k2,t1.trans t2⟩
  ·show Step b u h _ (byteR (if c = 92 then _ else _))
   rw[if_neg h92]
   by_cases hs:c=91∨c=93∨c=94∨c=45
   ·rw [if_pos hs]
    refine Step.err_of ?_;rw[z4c];unfold z22;refine y2b hx fun h1 k1 t1=>?_;have hr:=z1d5 (n:=n) (d:=d) k1 (by omega) hu
    rcases hs with hs|hs|hs|hs
    ·repeat (first | (with_reducible first | (first | refine y12 (fun _ _ => ?_) | refine y5 (fun _ _ => ?_)) | refine Wp.lett ?_ | (apply Wp.obind; exact z5 _ _)) | ((with_reducible refine y8 ?_ ?_); first | (with_reducible rfl) | ((with_reducible apply z28); omega)) | ((with_reducible refine y7 ?_ ?_; apply z2e); omega) | (with_reducible refine yd (by assumption) ?_))
     exact y1f hr ⟨rfl,_,k1,t1⟩
    ·repeat (first | (with_reducible first | (first | refine y12 (fun _ _ => ?_) | refine y5 (fun _ _ => ?_)) | refine Wp.lett ?_ | (apply Wp.obind; exact z5 _ _)) | ((with_reducible refine y8 ?_ ?_); first | (with_reducible rfl) | ((with_reducible apply z28); omega)) | ((with_reducible refine y7 ?_ ?_; apply z2e); omega) | (with_reducible refine yd (by assumption) ?_))
     exact y1f hr ⟨rfl,_,k1,t1⟩
    ·repeat (first | (with_reducible first | (first | refine y12 (fun _ _ => ?_) | refine y5 (fun _ _ => ?_)) | refine Wp.lett ?_ | (apply Wp.obind; exact z5 _ _)) | ((with_reducible refine y8 ?_ ?_); first | (with_reducible rfl) | ((with_reducible apply z28); omega)) | ((with_reducible refine y7 ?_ ?_; apply z2e); omega) | (with_reducible refine yd (by assumption) ?_))
     exact y1f hr ⟨rfl,_,k1,t1⟩
    ·have h45 : ((c : Int) == 45) = true := z28 (by omega)
     repeat(first|(with_reducible first|(first|refine y12 (fun _ _=>?_)|refine y5 (fun _ _=>?_))|refine Wp.lett ?_|(apply Wp.obind;exact z5 _ _)|(refine y8 ?_ ?_;assumption))|((with_reducible refine y7 ?_ ?_;apply z2e);omega)|(with_reducible refine yd (by assumption) ?_))
     exact y1f hr ⟨rfl,_,k1,t1⟩
   ·rw [if_neg hs]
    refine Step.ok_of ?_;rw[z4c];unfold z22;refine y2b hx fun h1 k1 t1=>?_;have h45:((c:Int) == 45)=false:=z2e (by omega)
    repeat(first|(with_reducible first|(first|refine y12 (fun _ _=>?_)|refine y5 (fun _ _=>?_))|refine Wp.lett ?_|(apply Wp.obind;exact z5 _ _))|((with_reducible refine y7 ?_ ?_);first|(with_reducible assumption)|((with_reducible apply z2e);omega))|(with_reducible first|refine y21 (by assumption) ?_|refine yd (by assumption) ?_))
    exact Wp.ret ⟨rfl,k1,t1⟩
def StepM(S:List Nat)(h0:AHeap)(xs:List z9e)(b q:Nat)(u:z11)(x:R):Except Nat (List Nat×Nat)→Prop
 | .ok (w',j)=>∃h',x=some (.ret (.tup []),h')∧Mem S h0 h' ((b,TRd,rdP u j)::(q,z396,z1c w')::xs)
 | .error e=>∃h' p,x=some (.panic (z28d 6 e),h')∧Rd h' b u p∧Tch S h0 h'
theorem StepM.ok_of{x:R}{w':List Nat}{j:Nat}(k:Wp x fun r h'=>r=.ret (.tup [])∧Mem S h0 h' ((b,TRd,rdP u j)::(q,z396,z1c w')::xs)):StepM S h0 xs b q u x (.ok (w',j)):=k.ex
theorem StepM.err_of{x:R}{e:Nat}(k:Wp x fun r h'=>r=.panic (z28d 6 e)∧∃p,Rd h' b u p∧Tch S h0 h'):StepM S h0 xs b q u x (.error e):=by
 obtain⟨_,h',e1,rfl,p,k1,k2⟩:=k;exact⟨h',p,e1,k1,k2⟩
theorem z3ee(hn:300<n){lo hi:Nat}(h1:lo≤hi)(h2:hi<256)(hw:WordsOk w){y:z9e}(M:Mem S h0 h (y::(q,z396,z1c w)::xs)):∃h',world n (d+1) 69 [.ptr q 0,.int .u8 (lo:Int),.int .u8 (hi:Int)] h=some (.ret (.tup []),h')∧Mem S h0 h' (y::(q,z396,z1c (z12a w lo (hi+1 - lo)))::xs):=by
 have k0:RowH h q z396 ([]++(z1c w++[])):=by
  rw[List.nil_append,List.append_nil];exact M.at1.1
 obtain⟨h',e,k1,t⟩:=z2fb (n:=n) (d:=d) rfl hn h1 h2 hw k0;rw[List.nil_append,List.append_nil] at k1;exact⟨h',e,y1b (xs:=[y]) M t k1⟩
theorem z2a2(hn:300<n)(hw:WordsOk w)(M:Mem S h0 h ((b,TRd,rdP u i)::(q,z396,z1c w)::xs))(hi:i≤u.length)(hu:u.length≤1000000):StepM S h0 xs b q u (world n (d+4) 77 [.ptr b 0,.ptr q 0] h) (z94 u w i):=by
 have hx:=z185 (n:=n) (d:=d) M.at0.1 M.at0.2.1 hi hu;unfold z94;have bS:=M.at0.2.2;have up:∀{h1:AHeap} {p:Nat},Rd h1 b u p→Tch [b] h h1→Tch S h0 h1:=fun k t=>(y1b (xs:=[]) M t k).tch;cases hm:z1cb u i with
 |error e=>
  rw[hm] at hx;refine StepM.err_of ?_;rw[z60];unfold z2d;exact y48 hx fun h' p' k1 k2=>⟨rfl,p',k1,up k1 k2⟩
 |ok cj=>
  obtain⟨c,j⟩:=cj;rw[hm] at hx;obtain⟨c1,c2,c3⟩:=z13e hm
  by_cases h45:at? u j=some 45
  ·show StepM S h0 xs b q u _ (if at? u j = some 45 then _ else _)
   rw[if_pos h45];obtain⟨hj,_⟩:=at?_some h45;cases hm2:z1cb u (j+1) with
   |error e=>
    refine StepM.err_of ?_;rw[z60];unfold z2d;refine y2b hx fun h1 k1 t1=>?_;have hs:=z93 (n:=n) (d:=d) k1 (z248 t1 M.at0.2.1) c3 hu 45;rw[if_pos h45,decide_eq_true h45] at hs
    repeat(((with_reducible apply Wp.obind);(with_reducible exact z5 _ _)))
    refine y2a hs fun h2 k2 t2=>?_;have hx2:=z185 (n:=n) (d:=d) k2 (z248 (t1.trans t2) M.at0.2.1) (by omega) hu;rw[hm2] at hx2
    repeat(with_reducible first|refine y5 (fun _ _=>?_)|(apply Wp.obind;exact z6 _)|(refine y8 ?_ ?_;rfl))
    exact y48 hx2 fun h' p' k3 t3=>⟨rfl,p',k3,up k3 ((t1.trans t2).trans t3)⟩
   |ok ek=>
    obtain⟨e,k⟩:=ek;obtain⟨e1,e2,e3⟩:=z13e hm2;show StepM S h0 xs b q u _ (if e<c then _ else _)
    by_cases hlt:e<c
    ·rw [if_pos hlt]
     obtain⟨k',rfl⟩:∃k',k=k'+1:=⟨k - 1,by omega⟩;refine StepM.err_of ?_;rw[z60];unfold z2d;refine y2b hx fun h1 k1 t1=>?_;have hs:=z93 (n:=n) (d:=d) k1 (z248 t1 M.at0.2.1) c3 hu 45;rw[if_pos h45,decide_eq_true h45] at hs
     repeat(((with_reducible apply Wp.obind);(with_reducible exact z5 _ _)))
     refine y2a hs fun h2 k2 t2=>?_;have hx2:=z185 (n:=n) (d:=d) k2 (z248 (t1.trans t2) M.at0.2.1) (by omega) hu;rw[hm2] at hx2
     repeat(with_reducible first|refine y5 (fun _ _=>?_)|(apply Wp.obind;exact z6 _)|(refine y8 ?_ ?_;rfl))
     refine y2b hx2 fun h3 k3 t3=>?_;have hr:=z1d5 (n:=n) (d:=d+1) k3 (by omega) hu
     repeat(first|(with_reducible first|refine y12 (fun _ _=>?_)|refine Wp.lett ?_|(apply Wp.obind;exact z5 _ _))|((with_reducible refine y8 ?_ ?_;apply decide_eq_true);omega))
     exact y1f hr ⟨rfl,_,k3,up k3 ((t1.trans t2).trans t3)⟩
    ·rw [if_neg hlt]
     refine StepM.ok_of ?_;rw[z60];unfold z2d;refine y2b hx fun h1 k1 t1=>?_;have hs:=z93 (n:=n) (d:=d) k1 (z248 t1 M.at0.2.1) c3 hu 45;rw[if_pos h45,decide_eq_true h45] at hs
     repeat(((with_reducible apply Wp.obind);(with_reducible exact z5 _ _)))
     refine y2a hs fun h2 k2 t2=>?_;have hx2:=z185 (n:=n) (d:=d) k2 (z248 (t1.trans t2) M.at0.2.1) (by omega) hu;rw[hm2] at hx2
     repeat(with_reducible first|refine y5 (fun _ _=>?_)|(apply Wp.obind;exact z6 _)|(refine y8 ?_ ?_;rfl))
     refine y2b hx2 fun h3 k3 t3=>?_;obtain⟨h4,e4,M4⟩:=z3ee (n:=n) (d:=d+2) hn (by omega:c≤e) e1 hw (y1b (xs:=[]) M ((t1.trans t2).trans t3) k3)
     repeat(first|(with_reducible first|refine y12 (fun _ _=>?_)|refine Wp.lett ?_|(apply Wp.obind;exact z5 _ _))|((with_reducible refine y7 ?_ ?_;apply decide_eq_false);omega)|(with_reducible first|(apply Wp.callN;assumption)|(first|refine y21 (by assumption) ?_|refine yd (by assumption) ?_)))
     exact Wp.ret ⟨rfl,M4⟩
  ·show StepM S h0 xs b q u _ (if at? u j = some 45 then _ else _)
   rw[if_neg h45];refine StepM.ok_of ?_;rw[z60];unfold z2d;refine y2b hx fun h1 k1 t1=>?_;have hs:=z93 (n:=n) (d:=d) k1 (z248 t1 M.at0.2.1) c3 hu 45;rw[if_neg h45,decide_eq_false h45] at hs
   repeat(((with_reducible apply Wp.obind);(with_reducible exact z5 _ _)))
   refine y2a hs fun h2 k2 t2=>?_;obtain⟨h4,e4,M4⟩:=z3ee (n:=n) (d:=d+2) hn (Nat.le_refl c) c1 hw (y1b (xs:=[]) M (t1.trans t2) k2);rw[show c+1 - c=1 by omega] at M4
   repeat(with_reducible first|refine y5 (fun _ _=>?_)|(apply Wp.obind;exact z6 _)|(refine y7 ?_ ?_;rfl)|(apply Wp.callN;assumption)|refine yd (by assumption) ?_)
   exact Wp.ret ⟨rfl,M4⟩
end
section
variable {n d b p q i:Nat}{h h0:AHeap}{u:z11}{Q:ARes→AHeap→Prop}{S:List Nat}{xs:List z9e}{w:List Nat}
theorem z282(hu:u.length≤1000000):∀(k j:Nat) (w:List Nat),j≤u.length→u.length - j<k→WordsOk w→∃r,LoopP u w j r∧(∀w' j',r=.ok (w',j')→WordsOk w'∧j<j'∧j'≤u.length)∧(∀e,r=.error e→e≤u.length)∧
   ∀{n d f b q:Nat} {S:List Nat} {h0 H hp0:AHeap} {xs:List z9e} {k16:AHeap→R} {Q:ARes→AHeap→Prop},z7 hp0=.ptr q 0→u.length - j<f→300<n→Mem S h0 H ((b,TRd,rdP u j)::(q,z396,z1c w)::xs)→
    (∀w' j' H',r=.ok (w',j')→Mem S h0 H' ((b,TRd,rdP u j')::(q,z396,z1c w')::xs)→Wp (k16 H') Q)→
    (∀e p H',r=.error e→Rd H' b u p→Tch S h0 H'→Q (.panic (z28d 6 e)) H')→
    Wp (z55 (world n (d+4)) (.ptr b 0) hp0 k16 f H) Q
 |0,_,_,_,hk,_=>by omega
 |k+1,j,w,hj,hk,hw=>by
  by_cases h93:at? u j=some 93
  ·obtain ⟨hp, _⟩ := at?_some h93
   refine⟨.ok (w,j+1),.done h93,?_,?_,?_⟩
   ·intro w' j' e
    cases e
    exact⟨hw,by omega,by omega⟩
   ·intro e he
    cases he
   ·intro n d f b q S h0 H hp0 xs k16 Q eq hf hn M hok hbad
    cases f with
    |zero=>omega
    |succ f=>
     rw[z62];unfold z3d;have hs:=z93 (n:=n) (d:=d+1) M.at0.1 M.at0.2.1 hj hu 93;rw[if_pos h93,decide_eq_true h93] at hs;refine y2a hs fun h1 k1 t1=>?_
     repeat(with_reducible first|refine Wp.lett ?_|(apply Wp.obind;exact z6 _)|(refine y7 ?_ ?_;exact Bool.not_true))
     exact hok w (j+1) h1 rfl (y1b (xs:=[]) M t1 k1)
  ·cases hm : z94 u w j with
   |error e=>
    refine⟨.error e,.bad h93 hm,?_,?_,?_⟩
    ·intro w' j' e
     cases e
    ·intro e' he
     cases he;exact z1b5 hj hm
    ·intro n d f b q S h0 H hp0 xs k16 Q eq hf hn M hok hbad
     cases f with
     |zero=>omega
     |succ f=>
      rw[z62];unfold z3d;have hs:=z93 (n:=n) (d:=d+1) M.at0.1 M.at0.2.1 hj hu 93;rw[if_neg h93,decide_eq_false h93] at hs;refine y2a hs fun h1 k1 t1=>?_;have hx:=z2a2 (n:=n) (d:=d) hn hw (y1b (xs:=[]) M t1 k1) hj hu;rw[hm] at hx;obtain⟨h2,p2,e2,k2,t2⟩:=hx;rw[eq]
      repeat(with_reducible first|refine Wp.lett ?_|(apply Wp.obind;exact z6 _)|(refine y8 ?_ ?_;exact Bool.not_false))
      exact y1f e2 (hbad e p2 h2 rfl k2 t2)
   |ok wj=>
    obtain⟨w',j'⟩:=wj;obtain⟨m1,m2,m3⟩:=z165 hw hm;obtain⟨r,r1,r2,r3,r4⟩:=z282 hu k j' w' m3 (by omega) m1;refine⟨r,.more h93 hm r1,?_,r3,?_⟩
    ·intro w2 j2 e
     obtain⟨a1,a2,a3⟩:=r2 w2 j2 e;exact⟨a1,by omega,a3⟩
    ·intro n d f b q S h0 H hp0 xs k16 Q eq hf hn M hok hbad
     cases f with
     |zero=>omega
     |succ f=>
      rw[z62];unfold z3d;have hs:=z93 (n:=n) (d:=d+1) M.at0.1 M.at0.2.1 hj hu 93;rw[if_neg h93,decide_eq_false h93] at hs;refine y2a hs fun h1 k1 t1=>?_;have hx:=z2a2 (n:=n) (d:=d) hn hw (y1b (xs:=[]) M t1 k1) hj hu;rw[hm] at hx;obtain⟨h2,e2,M2⟩:=hx;rw[eq]
      repeat(with_reducible first|refine Wp.lett ?_|(apply Wp.obind;exact z6 _)|(refine y8 ?_ ?_;exact Bool.not_false)|(apply Wp.callK;assumption))
      exact r4 eq (by omega) hn M2 hok hbad
theorem z2c6{hp0:AHeap}{k29:AHeap→R}{y:z9e}(eq:z7 hp0=.ptr q 0):∀(v2 v1:List Nat) (f:Nat) (H:AHeap),v2.length<f→v1.length+v2.length=4→(∀x∈v2,x<18446744073709551616)→Mem S h0 H (y::(q,z396,z1c v1++z1c v2)::xs)→
   (∀H',Mem S h0 H' (y::(q,z396,z1c v1++z1c (z12e v2))::xs)→Wp (k29 H') Q)→Wp (z56 hp0 k29 f ((v1.length:Nat):Int) H) Q
 |_,_,0,_,hf,_,_,_,_=>by omega
 |[],v1,f+1,H,hf,hl,hs,M,hk=>by
  rw[z89];unfold z50;rw[List.length_nil] at hl
  repeat(first|(with_reducible refine Wp.lett ?_)|((with_reducible refine y7 ?_ ?_;apply decide_eq_false);omega))
  exact hk H M
 |x::v2,v1,f+1,H,hf,hl,hs,M,hk=>by
  rw[z89];unfold z50;rw[List.length_cons] at hl hf;have hx:=hs x List.mem_cons_self;rw[eq];have e1:=zc7 (n:=4) (b:=q) (o:=0) (i:=v1.length) (by omega);rw[Nat.zero_add] at e1;have hlv:=z38 v1
  have ho:(z1c v1++z1c (x::v2))[v1.length]? =some (.int .u64 (x:Int)):=by
   rw[List.getElem?_append_right (by omega),hlv,Nat.sub_self];rfl
  repeat(first|(with_reducible first|refine Wp.lett ?_|(apply Wp.obind;exact e1))|((with_reducible refine y8 ?_ ?_;apply decide_eq_true);omega))
  refine y36 M ho ?_
  repeat(with_reducible first|refine Wp.lett ?_|(apply Wp.obind;first|exact e1|exact z5 _ _))
  rw[show (18446744073709551615:Int)=((18446744073709551615:Nat):Int) from rfl,xorI_nat hx (by omega)];refine Wp.ms1 M (by simp[z38]) rfl fun H' M'=>?_
  have es:(z1c v1++z1c (x::v2)).set v1.length (.int .u64 ((x ^^^ 18446744073709551615:Nat):Int))=z1c (v1++[x ^^^ 18446744073709551615])++z1c v2:=by
   rw[List.set_append_right _ _ (by omega),hlv,Nat.sub_self]
   simp[z1c]
  rw[es] at M'
  repeat(((with_reducible refine yf ?_ ?_ ?_);omega;omega))
  have el:(v1.length:Int)+1=(((v1++[x ^^^ 18446744073709551615]).length:Nat):Int):=by simp
  rw[el];refine z2c6 eq v2 (v1++[x ^^^ 18446744073709551615]) f H' (by omega) (by simp;omega) (fun z hz=>hs z (List.mem_cons_of_mem _ hz)) M' fun H2 M2=>hk H2 ?_;have e2:z1c (v1++[x ^^^ 18446744073709551615])++z1c (z12e v2)=z1c v1++z1c (z12e (x::v2)):=by simp[z1c,z12e]
  rw[e2] at M2;exact M2
theorem members_r(hu:u.length≤1000000)(hi:i≤u.length):∃r,SetP u i r∧(∀w j,r=.ok (w,j)→WordsOk w∧i<j∧j≤u.length)∧(∀e,r=.error e→e≤u.length)∧
  ∀{n d b:Nat} {h:AHeap},300<n→u.length<n→Rd h b u i→b<h.next→Step b u h (world n (d+5) 75 [.ptr b 0] h) (setR r):=by
 have hb1:setB u i≤u.length∧i≤setB u i:=by
  unfold setB
  by_cases h94:at? u i=some 94
  ·obtain ⟨hp, _⟩ := at?_some h94
   rw[if_pos h94];omega
  ·rw [if_neg h94]
   omega
 cases hm:z94 u zeroW (setB u i) with
 |error e=>
  refine⟨.error e,.bad hm,?_,?_,?_⟩
  ·intro w j hh
   cases hh
  ·intro e' hh
   cases hh;exact z1b5 hb1.1 hm
  ·intro n d b h hn hn2 k hb
   refine Step.err_of ?_;have hs:=fun (h':AHeap) (k':Rd h' b u i) (hb':b<h'.next)=>z93 (n:=n) (d:=d+1) k' hb' hi hu 94;rw[zfe];unfold z44;have Mx:=Mem.one k hb
   repeat(first|((with_reducible apply yc Mx);clear Mx;intro _ Mx)|rw[z8])
   have hs1:=hs _ Mx.at1.1 Mx.at1.2.1;refine y2a hs1 fun h1 k1 t1=>?_;have Mz:=y1b (xs:=[_]) Mx t1 k1;clear Mx;have Mx:=Mz;clear Mz
   repeat(first|(with_reducible apply Wp.obind;exact z6 _)|((with_reducible apply yc Mx);clear Mx;intro _ Mx)|rw[z8])
   have M2:Mem _ _ _ ((b,TRd,rdP u (setB u i))::(h1.next,z396,z1c zeroW)::[_]):=Mx.perm (List.perm_append_comm (l₁:=[_]) (l₂:=[_,_]));have hx:=z2a2 (n:=n) (d:=d) hn z3b M2 hb1.1 hu;rw[hm] at hx;obtain⟨h2,p2,e2,k2,t2⟩:=hx;exact y1f e2 ⟨rfl,p2,k2,t2⟩
 |ok wj=>
  obtain⟨w,j⟩:=wj;obtain⟨m1,m2,m3⟩:=z165 z3b hm;obtain⟨r,r1,r2,r3,r4⟩:=z282 hu (u.length+1) j w m3 (by omega) m1;refine⟨z21d u i r,.set hm r1,?_,?_,?_⟩
  ·intro w' j' hh
   cases r with
   |error e=>cases hh
   |ok wj2=>
    obtain⟨w2,j2⟩:=wj2;obtain⟨a1,a2,a3⟩:=r2 w2 j2 rfl;cases hh;refine⟨?_,by omega,a3⟩
    split
    ·exact z1f8 a1
    ·exact a1
  ·intro e hh
   cases r with
   |error e'=>
    cases hh;exact r3 _ rfl
   |ok wj2=>cases hh
  ·intro n d b h hn hn2 k hb
   have main:∀Q:ARes→AHeap→Prop,(∀w' j' H',r=.ok (w',j')→Rd H' b u j'→Tch [b] h H'→Q (.ret (.agg (z1c (if at? u i=some 94 then z12e w' else w')))) H')→(∀e p H',r=.error e→Rd H' b u p→Tch [b] h H'→Q (.panic (z28d 6 e)) H')→Wp (world n (d+5) 75 [.ptr b 0] h) Q:=by
    intro Q q1 q2;have hs:=fun (h':AHeap) (k':Rd h' b u i) (hb':b<h'.next)=>z93 (n:=n) (d:=d+1) k' hb' hi hu 94;rw[zfe];unfold z44;have Mx:=Mem.one k hb
    repeat(first|((with_reducible apply yc Mx);clear Mx;intro _ Mx)|rw[z8])
    have hs1:=hs _ Mx.at1.1 Mx.at1.2.1;refine y2a hs1 fun h1 k1 t1=>?_;have Mz:=y1b (xs:=[_]) Mx t1 k1;clear Mx;have Mx:=Mz;clear Mz
    repeat(first|(with_reducible apply Wp.obind;exact z6 _)|((with_reducible apply yc Mx);clear Mx;intro _ Mx)|rw[z8])
    have M2:Mem _ _ _ ((b,TRd,rdP u (setB u i))::(h1.next,z396,z1c zeroW)::[_]):=Mx.perm (List.perm_append_comm (l₁:=[_]) (l₂:=[_,_]));have hx:=z2a2 (n:=n) (d:=d) hn z3b M2 hb1.1 hu;rw[hm] at hx;obtain⟨h2,e2,M3⟩:=hx;refine Wp.callK e2 ?_
    ((with_reducible refine y12 (fun _ _=>?_)))
    rename_i k16 ek16;refine r4 (z8 h1) (by omega) hn M3 ?_ ?_
    ·intro w' j' H' hr M4
     obtain⟨a1,a2,a3⟩:=r2 w' j' hr
     ((with_reducible refine y21 (by assumption) ?_))
     ((with_reducible refine y12 (fun _ _=>?_)))
     rename_i k20 ek20
     have fin:∀{w2:List Nat} {H2:AHeap},WordsOk w2→w2=(if at? u i=some 94 then z12e w' else w')→Mem [b] h H2 ((b,TRd,rdP u j')::(h1.next,z396,z1c w2)::[(h.next,z396,[.int .u64 0,.int .u64 0,.int .u64 0,.int .u64 0])])→Wp (k20 H2) Q:=by
      intro w2 H2 o2 ew M5;have hl:(z1c w2).length=4:=by rw[z38,o2.len]
      refine y21 ek20 ?_;refine y1a M5 hl ?_;refine y29 M5 hl rfl (z193 _) fun H3 M6=>?_;refine y2e M6 hl ?_;rw[ew] at M6 ⊢;exact Wp.ret (q1 w' j' H3 hr M6.at0.1 M6.tch)
     by_cases h94:at? u i=some 94
     ·(((with_reducible refine y8 ?_ ?_; apply decide_eq_true); omega))
      ((with_reducible refine y12 (fun _ _=>?_)))
      rename_i k29 ek29;have ho:=z2c6 (S:=[b]) (h0:=h) (k29:=k29) (Q:=Q) (z8 h1) w' [] n H' (by rw[a1.len];omega) (by rw[a1.len];rfl) a1.small (by exact M4);refine ho fun H2 M5=>?_;refine y21 ek29 ?_;exact fin (z1f8 a1) (by rw[if_pos h94]) M5
     ·(((with_reducible refine y7 ?_ ?_; apply decide_eq_false); omega))
      exact fin a1 (by rw[if_neg h94]) M4
    ·intro e p H' hr k5 t5
     exact q2 e p H' hr k5 t5
   cases r with
   |error e=>exact Step.err_of (main _ (fun w' j' H' hh=>by cases hh) fun e' p H' hh k5 t5=>by cases hh;exact⟨rfl,p,k5,t5⟩)
   |ok wj2=>
    obtain⟨w2,j2⟩:=wj2;exact Step.ok_of (main _ (fun w' j' H' hh k5 t5=>by cases hh;exact⟨rfl,k5,t5⟩) fun e' p H' hh=>by cases hh)
end
def Bnd(u:z11)(i:Nat):Res→Prop
 | .ok (_,j)=>i≤j∧j≤u.length
 | .error q=>q≤u.length
def Bnd1(u:z11)(i:Nat):Res→Prop
 | .ok (_,j)=>i<j∧j≤u.length
 | .error q=>q≤u.length
def AltOk(u:z11)(m:Nat):Prop:=∀i,i≤u.length→u.length - i≤m→∃r,AltP u [] i r∧Bnd u i r∧
 ∀{n D b:Nat} {h:AHeap},4*m+9≤D→300<n→u.length+5<n→Rd h b u i→b<h.next→z7a z17 h.ex=false→StepN b u h (world n D 55 [.ptr b 0] h) r
def RowOk(u:z11)(m:Nat):Prop:=∀i,i≤u.length→u.length - i≤m→∃r,RowP u [] i r∧Bnd u i r∧
 ∀{n D b:Nat} {h:AHeap},4*m+8≤D→300<n→u.length+5<n→Rd h b u i→b<h.next→z7a z17 h.ex=false→StepN b u h (world n D 65 [.ptr b 0] h) r
def PartOk(u:z11)(m:Nat):Prop:=∀i,i≤u.length→u.length - i≤m→∃r,PartP u i r∧Bnd1 u i r∧
 ∀{n D b:Nat} {h:AHeap},4*m+7≤D→300<n→u.length+5<n→Rd h b u i→b<h.next→z7a z17 h.ex=false→StepN b u h (world n D 71 [.ptr b 0] h) r
def AtomOk(u:z11)(m:Nat):Prop:=∀i,i≤u.length→u.length - i≤m→∃r,AtomP u i r∧Bnd1 u i r∧
 ∀{n D b:Nat} {h:AHeap},4*m+6≤D→300<n→u.length+5<n→Rd h b u i→b<h.next→z7a z17 h.ex=false→StepN b u h (world n D 73 [.ptr b 0] h) r
section
variable {n d b p q i:Nat}{h h0:AHeap}{u:z11}{Q:ARes→AHeap→Prop}{S:List Nat}{xs rs T:List z9e}{w:List Nat}{x:R}{k:AV→AHeap→R}{t:Nd}{c:List AV}{v:AV}
theorem StepN.ok_of(kk:Wp x fun r h'=>∃c T,r=.ret (.agg c)∧NodeT t c T∧Mem [b] h h' ((b,TRd,rdP u p)::T)):StepN b u h x (.ok (t,p)):=by
 obtain⟨_,h',e,c,T,rfl,k1,k2⟩:=kk;exact⟨c,T,h',e,k1,k2⟩
theorem StepN.err_of(kk:Wp x fun r h'=>r=.panic (z28d 6 q)∧∃p,Rd h' b u p∧Tch [b] h h'):StepN b u h x (.error q):=by
 obtain⟨_,h',e,rfl,p,k1,k2⟩:=kk;exact⟨h',p,e,k1,k2⟩
theorem y25(hx:StepN b u h x (.ok (t,p)))(M:Mem S h0 h ((b,TRd,rdP u i)::rs))(hk:∀c T h',NodeT t c T→Mem S h0 h' ((b,TRd,rdP u p)::(rs++T))→Wp (k (.agg c) h') Q):Wp (callK x k) Q:=by
 obtain⟨c,T,h',e,kt,M'⟩:=hx;exact Wp.callK e (hk c T h' kt (y31 (xs:=[_]) (ys:=[_]) M M'))
theorem y38(hx:StepN b u h x (.error q))(M:Mem S h0 h ((b,TRd,rdP u i)::rs))(hq:∀h' p,Rd h' b u p→Tch S h0 h'→Q (.panic (z28d 6 q)) h'):Wp (callK x k) Q:=by
 obtain⟨h',p,e,k1,k2⟩:=hx;exact y1f e (hq h' p k1 (y1b (xs:=[]) M k2 k1).tch)
theorem y2c(hx:Step b u h x (.ok (v,p)))(M:Mem S h0 h ((b,TRd,rdP u i)::rs))(hk:∀h',Mem S h0 h' ((b,TRd,rdP u p)::rs)→Wp (k v h') Q):Wp (callK x k) Q:=
 y2b hx fun h' k1 t1=>hk h' (y1b (xs:=[]) M t1 k1)
theorem y43(hx:Step b u h x (.ok (v,p)))(M:Mem S h0 h ((b,TRd,rdP u i)::rs))(hk:∀h',Mem S h0 h' ((b,TRd,rdP u p)::rs)→Wp (k v h') Q):Wp (callN x k) Q:=
 y2a hx fun h' k1 t1=>hk h' (y1b (xs:=[]) M t1 k1)
theorem y54(hx:Step b u h x (.error (6,q)))(M:Mem S h0 h ((b,TRd,rdP u i)::rs))(hq:∀h' p,Rd h' b u p→Tch S h0 h'→Q (.panic (z28d 6 q)) h'):Wp (callK x k) Q:=
 y48 hx fun h' p k1 t1=>hq h' p k1 (y1b (xs:=[]) M t1 k1).tch
theorem z82{r0:Nat}{l:List AV}(M:Mem S h0 h ((b,TRd,rdP u p)::(r0,z17,l)::T))(hl:l.length=6)(kt:NodeT t c T):Wp (obind (z16 h 6 c (.ptr r0 0)) fun h1=>obind (z15 h1 6 (.ptr r0 0)) fun w=>some (.ret (.agg w),h1)) fun r h'=>∃c T,r=.ret (.agg c)∧NodeT t c T∧Mem S h0 h' ((b,TRd,rdP u p)::T):=by
 refine y1c M kt.len hl kt.one fun h1 M1=>?_;refine y1a M1 kt.len ?_;exact Wp.ret ⟨c,T,rfl,kt,z223 (xs:=[_]) (T0:=[_]) M1⟩
theorem atom_ok(hu:u.length≤1000000){m:Nat}(ih:∀m',m=m'+1→AltOk u m'):AtomOk u m:=by
 intro i hi hm;cases hc:at? u i with
 |none=>
  refine⟨_,.none hc,hi,?_⟩;intro n D b h hD hn hn2 k0 hb hx;obtain⟨D,rfl⟩:∃D',D=D'+6:=⟨D - 6,by omega⟩;refine StepN.err_of ?_;rw[z27];unfold z1d;have Mx:=Mem.one k0 hb
  repeat(first|((with_reducible apply yc Mx);clear Mx;intro _ Mx)|rw[z8])
  have M1:=Mx.swap;have hs:=zac (n:=n) (d:=D+3) M1.at0.1 M1.at0.2.1 hi hu;rw[hc] at hs;exact y54 hs M1 fun h' p k1 t1=>⟨rfl,p,k1,t1⟩
 |some c=>
  obtain⟨hp,_⟩:=at?_some hc;have h256:=at?_256 hc
  by_cases h40:c=40
  ·subst h40
   obtain⟨m',rfl⟩:∃m',m=m'+1:=⟨m - 1,by omega⟩;obtain⟨r,r1,r2,r3⟩:=ih m' rfl (i+1) (by omega) (by omega)
   cases r with
   |error q=>
    refine⟨_,.open_bad hc r1,r2,?_⟩;intro n D b h hD hn hn2 k0 hb hx;obtain⟨D,rfl⟩:∃D',D=D'+6:=⟨D - 6,by omega⟩;refine StepN.err_of ?_;rw[z27];unfold z1d;have Mx:=Mem.one k0 hb
    repeat(first|((with_reducible apply yc Mx);clear Mx;intro _ Mx)|rw[z8])
    have M1:=Mx.swap;have hs:=zac (n:=n) (d:=D+3) M1.at0.1 M1.at0.2.1 hi hu;rw[hc] at hs;refine y2c hs M1 fun h1 M2=>?_;have hs2:=r3 (n:=n) (D:=D+5) (by omega) hn hn2 M2.at0.1 M2.at0.2.1 (by rw[M2.ex];exact hx)
    repeat(first|(with_reducible first|refine Wp.lett ?_|(apply Wp.obind;exact z5 _ _))|((with_reducible refine y8 ?_ ?_;apply z28);omega))
    exact y38 hs2 M2 fun h' p k1 t1=>⟨rfl,p,k1,t1⟩
   |ok tj=>
    obtain⟨t,j⟩:=tj;obtain⟨b1,b2⟩:=r2
    by_cases h41:at? u j=some 41
    ·obtain ⟨hj, _⟩ := at?_some h41
     refine⟨_,.group hc r1 h41,⟨by omega,by omega⟩,?_⟩;intro n D b h hD hn hn2 k0 hb hx;obtain⟨D,rfl⟩:∃D',D=D'+6:=⟨D - 6,by omega⟩;refine StepN.ok_of ?_;rw[z27];unfold z1d;have Mx:=Mem.one k0 hb
     repeat(first|((with_reducible apply yc Mx);clear Mx;intro _ Mx)|rw[z8])
     have M1:=Mx.swap;have hs:=zac (n:=n) (d:=D+3) M1.at0.1 M1.at0.2.1 hi hu;rw[hc] at hs;refine y2c hs M1 fun h1 M2=>?_;have hs2:=r3 (n:=n) (D:=D+5) (by omega) hn hn2 M2.at0.1 M2.at0.2.1 (by rw[M2.ex];exact hx)
     repeat(first|(with_reducible first|refine Wp.lett ?_|(apply Wp.obind;exact z5 _ _))|((with_reducible refine y8 ?_ ?_;apply z28);omega))
     refine y25 hs2 M2 fun c T h2 kt M3=>?_
     (((with_reducible apply Wp.obind);(with_reducible exact z13 _)))
     refine yc M3 fun h3 M4=>?_;rw[z8];refine y11 M4 kt.len rfl kt.one fun h4 M5=>?_;have M6:=M5.swap;have hs3:=take_r (n:=n) (d:=D+1) M6.at0.1 M6.at0.2.1 b2 hu 41;rw[if_pos h41] at hs3;refine y2c hs3 M6 fun h5 M7=>?_;refine y1a M7 kt.len ?_;exact z82 (z223 (xs:=[_]) (T0:=[_]) M7) rfl kt
    ·refine ⟨_, .open_end hc r1 h41, b2, ?_⟩
     intro n D b h hD hn hn2 k0 hb hx;obtain⟨D,rfl⟩:∃D',D=D'+6:=⟨D - 6,by omega⟩;refine StepN.err_of ?_;rw[z27];unfold z1d;have Mx:=Mem.one k0 hb
     repeat(first|((with_reducible apply yc Mx);clear Mx;intro _ Mx)|rw[z8])
     have M1:=Mx.swap;have hs:=zac (n:=n) (d:=D+3) M1.at0.1 M1.at0.2.1 hi hu;rw[hc] at hs;refine y2c hs M1 fun h1 M2=>?_;have hs2:=r3 (n:=n) (D:=D+5) (by omega) hn hn2 M2.at0.1 M2.at0.2.1 (by rw[M2.ex];exact hx)
     repeat(first|(with_reducible first|refine Wp.lett ?_|(apply Wp.obind;exact z5 _ _))|((with_reducible refine y8 ?_ ?_;apply z28);omega))
     refine y25 hs2 M2 fun c T h2 kt M3=>?_
     (((with_reducible apply Wp.obind);(with_reducible exact z13 _)))
     refine yc M3 fun h3 M4=>?_;rw[z8];refine y11 M4 kt.len rfl kt.one fun h4 M5=>?_;have M6:=M5.swap;have hs3:=take_r (n:=n) (d:=D+1) M6.at0.1 M6.at0.2.1 b2 hu 41;rw[if_neg h41] at hs3;exact y54 hs3 M6 fun h' p k1 t1=>⟨rfl,p,k1,t1⟩
  by_cases h46:c=46
  ·subst h46
   refine⟨_,.any hc,⟨by omega,by omega⟩,?_⟩;intro n D b h hD hn hn2 k0 hb hx;obtain⟨D,rfl⟩:∃D',D=D'+6:=⟨D - 6,by omega⟩;refine StepN.ok_of ?_;rw[z27];unfold z1d;have Mx:=Mem.one k0 hb
   repeat(first|((with_reducible apply yc Mx);clear Mx;intro _ Mx)|rw[z8])
   have M1:=Mx.swap;have hs:=zac (n:=n) (d:=D+3) M1.at0.1 M1.at0.2.1 hi hu;rw[hc] at hs;refine y2c hs M1 fun h1 M2=>?_
   repeat(first|(with_reducible first|refine Wp.lett ?_|(apply Wp.obind;first|exact z5 _ _|exact z13 _))|((with_reducible refine y8 ?_ ?_;apply z28);omega)|((with_reducible refine y7 ?_ ?_;apply z2e);omega)|(with_reducible apply Wp.callN;exact z2f8 (d:=D+3) hn))
   exact z82 M2 rfl (y19 2 z22e)
  by_cases h91:c=91
  ·subst h91
   obtain⟨r,r1,r2,r2',r3⟩:=members_r hu (i:=i+1) (by omega)
   cases r with
   |error q=>
    refine⟨_,.set_bad hc r1,r2' q rfl,?_⟩;intro n D b h hD hn hn2 k0 hb hx;obtain⟨D,rfl⟩:∃D',D=D'+6:=⟨D - 6,by omega⟩;refine StepN.err_of ?_;rw[z27];unfold z1d;have Mx:=Mem.one k0 hb
    repeat(first|((with_reducible apply yc Mx);clear Mx;intro _ Mx)|rw[z8])
    have M1:=Mx.swap;have hs:=zac (n:=n) (d:=D+3) M1.at0.1 M1.at0.2.1 hi hu;rw[hc] at hs;refine y2c hs M1 fun h1 M2=>?_;have hs2:=r3 (n:=n) (d:=D) hn (by omega) M2.at0.1 M2.at0.2.1
    repeat(first|(with_reducible first|refine Wp.lett ?_|(apply Wp.obind;exact z5 _ _))|((with_reducible refine y8 ?_ ?_;apply z28);omega)|((with_reducible refine y7 ?_ ?_;apply z2e);omega))
    exact y54 hs2 M2 fun h' p k1 t1=>⟨rfl,p,k1,t1⟩
   |ok wj=>
    obtain⟨w,j⟩:=wj;obtain⟨o1,o2,o3⟩:=r2 w j rfl;refine⟨_,.set hc r1,⟨by omega,o3⟩,?_⟩;intro n D b h hD hn hn2 k0 hb hx;obtain⟨D,rfl⟩:∃D',D=D'+6:=⟨D - 6,by omega⟩;refine StepN.ok_of ?_;rw[z27];unfold z1d;have Mx:=Mem.one k0 hb
    repeat(first|((with_reducible apply yc Mx);clear Mx;intro _ Mx)|rw[z8])
    have M1:=Mx.swap;have hs:=zac (n:=n) (d:=D+3) M1.at0.1 M1.at0.2.1 hi hu;rw[hc] at hs;refine y2c hs M1 fun h1 M2=>?_;have hs2:=r3 (n:=n) (d:=D) hn (by omega) M2.at0.1 M2.at0.2.1
    repeat(first|(with_reducible first|refine Wp.lett ?_|(apply Wp.obind;exact z5 _ _))|((with_reducible refine y8 ?_ ?_;apply z28);omega)|((with_reducible refine y7 ?_ ?_;apply z2e);omega))
    refine y2c hs2 M2 fun h2 M3=>?_;have hb2:=setBld o1
    repeat(((with_reducible apply Wp.obind);(with_reducible first|exact hb2|exact z13 _)))
    exact z82 M3 rfl (y19 2 o1)
  by_cases h92:c=92
  ·subst h92
   cases he:at? u (i+1) with
   |none=>
    refine⟨_,.sl_end hc he,(by show i+1≤u.length;omega),?_⟩;intro n D b h hD hn hn2 k0 hb hx;obtain⟨D,rfl⟩:∃D',D=D'+6:=⟨D - 6,by omega⟩;refine StepN.err_of ?_;rw[z27];unfold z1d;have Mx:=Mem.one k0 hb
    repeat(first|((with_reducible apply yc Mx);clear Mx;intro _ Mx)|rw[z8])
    have M1:=Mx.swap;have hs:=zac (n:=n) (d:=D+3) M1.at0.1 M1.at0.2.1 hi hu;rw[hc] at hs;refine y2c hs M1 fun h1 M2=>?_;have hs2:=zac (n:=n) (d:=D+3) M2.at0.1 M2.at0.2.1 (by omega) hu;rw[he] at hs2
    repeat(first|(with_reducible first|refine Wp.lett ?_|(apply Wp.obind;exact z5 _ _))|((with_reducible refine y8 ?_ ?_;apply z28);omega)|((with_reducible refine y7 ?_ ?_;apply z2e);omega))
    exact y54 hs2 M2 fun h' p k1 t1=>⟨rfl,p,k1,t1⟩
   |some e=>
    obtain⟨hp2,_⟩:=at?_some he;refine⟨_,.sl hc he,⟨by omega,by omega⟩,?_⟩;intro n D b h hD hn hn2 k0 hb hx;obtain⟨D,rfl⟩:∃D',D=D'+6:=⟨D - 6,by omega⟩;refine StepN.ok_of ?_;rw[z27];unfold z1d;have Mx:=Mem.one k0 hb
    repeat(first|((with_reducible apply yc Mx);clear Mx;intro _ Mx)|rw[z8])
    have M1:=Mx.swap;have hs:=zac (n:=n) (d:=D+3) M1.at0.1 M1.at0.2.1 hi hu;rw[hc] at hs;refine y2c hs M1 fun h1 M2=>?_;have hs2:=zac (n:=n) (d:=D+3) M2.at0.1 M2.at0.2.1 (by omega) hu;rw[he] at hs2
    repeat(first|(with_reducible first|refine Wp.lett ?_|(apply Wp.obind;exact z5 _ _))|((with_reducible refine y8 ?_ ?_;apply z28);omega)|((with_reducible refine y7 ?_ ?_;apply z2e);omega))
    refine y2c hs2 M2 fun h2 M3=>?_
    repeat(with_reducible first|(apply Wp.obind;first|exact z5 _ _|exact z13 _)|(apply Wp.callN;exact z1e1 (d:=D+3) hn (at?_256 he)))
    exact z82 M3 rfl (y19 2 (zae 1 z3b e))
  by_cases hbad:zd8 c
  ·refine ⟨_, .bad hc hbad, hi, ?_⟩
   intro n D b h hD hn hn2 k0 hb hx;obtain⟨D,rfl⟩:∃D',D=D'+6:=⟨D - 6,by omega⟩;refine StepN.err_of ?_;rw[z27];unfold z1d;have Mx:=Mem.one k0 hb
   repeat(first|((with_reducible apply yc Mx);clear Mx;intro _ Mx)|rw[z8])
   have M1:=Mx.swap;have hs:=zac (n:=n) (d:=D+3) M1.at0.1 M1.at0.2.1 hi hu;rw[hc] at hs;refine y2c hs M1 fun h1 M2=>?_;have hr:=z1d5 (n:=n) (d:=D+3) M2.at0.1 (by omega) hu
   rcases hbad with hs|hs|hs|hs|hs|hs
   ·repeat (first | (with_reducible first | (first | refine y12 (fun _ _ => ?_) | refine y5 (fun _ _ => ?_)) | refine Wp.lett ?_ | (apply Wp.obind; exact z5 _ _)) | ((with_reducible refine y8 ?_ ?_); first | (with_reducible rfl) | ((with_reducible apply z28); omega)) | ((with_reducible refine y7 ?_ ?_; apply z2e); omega) | (with_reducible refine yd (by assumption) ?_))
    exact y1f hr ⟨rfl,_,M2.at0.1,M2.tch⟩
   ·repeat (first | (with_reducible first | (first | refine y12 (fun _ _ => ?_) | refine y5 (fun _ _ => ?_)) | refine Wp.lett ?_ | (apply Wp.obind; exact z5 _ _)) | ((with_reducible refine y8 ?_ ?_); first | (with_reducible rfl) | ((with_reducible apply z28); omega)) | ((with_reducible refine y7 ?_ ?_; apply z2e); omega) | (with_reducible refine yd (by assumption) ?_))
    exact y1f hr ⟨rfl,_,M2.at0.1,M2.tch⟩
   ·repeat (first | (with_reducible first | (first | refine y12 (fun _ _ => ?_) | refine y5 (fun _ _ => ?_)) | refine Wp.lett ?_ | (apply Wp.obind; exact z5 _ _)) | ((with_reducible refine y8 ?_ ?_); first | (with_reducible rfl) | ((with_reducible apply z28); omega)) | ((with_reducible refine y7 ?_ ?_; apply z2e); omega) | (with_reducible refine yd (by assumption) ?_))
    exact y1f hr ⟨rfl,_,M2.at0.1,M2.tch⟩
   ·repeat (first | (with_reducible first | (first | refine y12 (fun _ _ => ?_) | refine y5 (fun _ _ => ?_)) | refine Wp.lett ?_ | (apply Wp.obind; exact z5 _ _)) | ((with_reducible refine y8 ?_ ?_); first | (with_reducible rfl) | ((with_reducible apply z28); omega)) | ((with_reducible refine y7 ?_ ?_; apply z2e); omega) | (with_reducible refine yd (by assumption) ?_))
    exact y1f hr ⟨rfl,_,M2.at0.1,M2.tch⟩
   ·repeat (first | (with_reducible first | (first | refine y12 (fun _ _ => ?_) | refine y5 (fun _ _ => ?_)) | refine Wp.lett ?_ | (apply Wp.obind; exact z5 _ _)) | ((with_reducible refine y8 ?_ ?_); first | (with_reducible rfl) | ((with_reducible apply z28); omega)) | ((with_reducible refine y7 ?_ ?_; apply z2e); omega) | (with_reducible refine yd (by assumption) ?_))
    exact y1f hr ⟨rfl,_,M2.at0.1,M2.tch⟩
   ·have h93 : ((c : Int) == 93) = true := z28 (by omega)
    repeat(first|(with_reducible first|(first|refine y12 (fun _ _=>?_)|refine y5 (fun _ _=>?_))|refine Wp.lett ?_|(apply Wp.obind;exact z5 _ _)|(refine y8 ?_ ?_;assumption))|((with_reducible refine y7 ?_ ?_;apply z2e);omega)|(with_reducible refine yd (by assumption) ?_))
    exact y1f hr ⟨rfl,_,M2.at0.1,M2.tch⟩
  ·refine ⟨_, .one hc hbad ⟨h40, h46, h91, h92⟩, ⟨by omega, by omega⟩, ?_⟩
   intro n D b h hD hn hn2 k0 hb hx;obtain⟨D,rfl⟩:∃D',D=D'+6:=⟨D - 6,by omega⟩;refine StepN.ok_of ?_;rw[z27];unfold z1d;have Mx:=Mem.one k0 hb
   repeat(first|((with_reducible apply yc Mx);clear Mx;intro _ Mx)|rw[z8])
   have M1:=Mx.swap;have hs:=zac (n:=n) (d:=D+3) M1.at0.1 M1.at0.2.1 hi hu;rw[hc] at hs;refine y2c hs M1 fun h1 M2=>?_;unfold zd8 at hbad;have h93:((c:Int) == 93)=false:=z2e (by omega)
   repeat(first|(with_reducible first|(first|refine y12 (fun _ _=>?_)|refine y5 (fun _ _=>?_))|refine Wp.lett ?_|(apply Wp.obind;first|exact z5 _ _|exact z13 _))|((with_reducible refine y7 ?_ ?_);first|(with_reducible assumption)|((with_reducible apply z2e);omega))|(with_reducible first|(apply Wp.callN;exact z1e1 (d:=D+3) hn h256)|(first|refine y21 (by assumption) ?_|refine yd (by assumption) ?_)))
   exact z82 M2 rfl (y19 2 (zae 1 z3b c))
end
open Go.RowKit Abs
section
variable {n d b p q i:Nat}{h h0:AHeap}{u:z11}{Q:ARes→AHeap→Prop}{S:List Nat}{xs rs T:List z9e}{w:List Nat}{x:R}{t:Nd}{c:List AV}{v:AV}
theorem z2a3(c:List AV)(q:Nat)(hl:c.length=6)(h1:c.all AV.one=true):GrowT z17 6 [c] (.sl q 0 1 6) [(q,z17,c)]:=by
 refine⟨fun r hr=>?_,.inr ⟨by simp,q,rfl,by simp⟩⟩;rw[List.mem_singleton] at hr;subst hr;exact⟨hl,h1⟩
theorem signed(kt:NodeT t c T)(op q:Nat):NodeT (z30b op [t]) (z25 op zeroW (.sl q 0 1 6)) ([(q,z17,c)]++(T++[])):=
 NodeT.mk z3b (z2a3 c q kt.len kt.one) (KidsT.cons kt .nil)
theorem z1aa{c:Nat}(h:at? u i=some c):signAt u i=z318 c:=by
 unfold signAt;rw[h]
theorem z3fb(h42:at? u i≠some 42)(h43:at? u i≠some 43)(h63:at? u i≠some 63):signAt u i=0:=by
 unfold signAt;cases hc:at? u i with
 |none=>rfl
 |some c=>
  show z318 c=0;rw[hc] at h42 h43 h63;unfold z318
  split
  ·exact absurd rfl h42
  ·exact absurd rfl h43
  ·exact absurd rfl h63
  ·rfl
theorem z37e{r0 n1:Nat}{l:List AV}{D op:Nat}(M:Mem S h0 h ((b,TRd,rdP u p)::(n1,z17,c)::(r0,z17,l)::T))(hl:l.length=6)(kt:NodeT t c T)(hex:z7a z17 h0.ex=false):
  Wp (obind (z15 h 6 (.ptr n1 0)) fun t9=>outK (z122 Tryd.prog h zf5 1 [(0,.agg t9)]) fun v10 h20=>callN (world n (D+1) 62 [.int .i64 (op:Int),v10] h20) fun r11 h22=>obind (z4f r11) fun t11=>obind (z16 h22 6 t11 (.ptr r0 0)) fun h25=>obind (z15 h25 6 (.ptr r0 0)) fun w=>some (.ret (.agg w),h25)) fun r h'=>∃c T,r=.ret (.agg c)∧NodeT (z30b op [t]) c T∧Mem S h0 h' ((b,TRd,rdP u p)::T):=by
 refine y1a M kt.len ?_;refine y2d M (kt.bld h) kt.one hex fun h1 M1=>?_;have g:=z2a3 c h.next kt.len kt.one;obtain⟨h2,e2,t2⟩:=z450 (n:=n) (d:=D) (h:=h1) g op;refine Wp.callN e2 ?_;have M2:=M1.keep t2;refine Wp.obind (z13 _) ?_
 have M3:Mem S h0 h2 ((b,TRd,rdP u p)::(r0,z17,l)::([(h.next,z17,c)]++(T++[]))):=by
  rw[List.append_nil]
  have M4:=M2.perm (ys:=[(n1,z17,c)]++((b,TRd,rdP u p)::(r0,z17,l)::([(h.next,z17,c)]++T))) (by
   refine List.Perm.trans ?_ (List.perm_append_comm (l₁:=(b,TRd,rdP u p)::(n1,z17,c)::(r0,z17,l)::T) (l₂:=[(h.next,z17,c)]));refine(List.Perm.swap _ _ _).trans ?_;refine List.Perm.cons _ (List.Perm.cons _ (List.Perm.cons _ ?_));exact List.perm_append_comm)
  exact Mem.drop M4
 exact z82 M3 hl (signed kt op h.next)
theorem z18c(hu:u.length≤1000000){m:Nat}(ih:AtomOk u m):PartOk u m:=by
 intro i hi hm;obtain⟨r,r1,r2,r3⟩:=ih i hi hm
 cases r with
 |error q=>
  refine⟨_,.bad r1,r2,?_⟩;intro n D b h hD hn hn2 k0 hb hx;obtain⟨D,rfl⟩:∃D',D=D'+7:=⟨D - 7,by omega⟩;refine StepN.err_of ?_;rw[z45];unfold z21;have Mx:=Mem.one k0 hb
  repeat(first|((with_reducible apply yc Mx);clear Mx;intro _ Mx)|rw[z8])
  have M1:=Mx.swap;have hs:=r3 (n:=n) (D:=D+6) (by omega) hn hn2 M1.at0.1 M1.at0.2.1 (by rw[M1.ex];exact hx);exact y38 hs M1 fun h' p k1 t1=>⟨rfl,p,k1,t1⟩
 |ok tj=>
  obtain⟨t,j⟩:=tj;obtain⟨b1,b2⟩:=r2
  by_cases h42:at? u j=some 42
  ·have hsg : signAt u j = 5 := z1aa h42
   obtain⟨hj,_⟩:=at?_some h42;have rp:=PartP.sign r1 (by rw[hsg];decide);rw[hsg] at rp;refine⟨_,rp,⟨by omega,by omega⟩,?_⟩;intro n D b h hD hn hn2 k0 hb hx;obtain⟨D,rfl⟩:∃D',D=D'+7:=⟨D - 7,by omega⟩;refine StepN.ok_of ?_;rw[z45];unfold z21;have Mx:=Mem.one k0 hb
   repeat(first|((with_reducible apply yc Mx);clear Mx;intro _ Mx)|rw[z8])
   have M1:=Mx.swap;have hs:=r3 (n:=n) (D:=D+6) (by omega) hn hn2 M1.at0.1 M1.at0.2.1 (by rw[M1.ex];exact hx);refine y25 hs M1 fun c T h2 kt M3=>?_
   (((with_reducible apply Wp.obind);(with_reducible exact z13 _)))
   refine yc M3 fun h3 M4=>?_;rw[z8];refine y11 M4 kt.len rfl kt.one fun h4 M5=>?_;have M6:=M5.swap;have hs1:=z93 (n:=n) (d:=D+3) M6.at0.1 M6.at0.2.1 b2 hu 42;rw[if_pos h42,decide_eq_true h42] at hs1;refine y43 hs1 M6 fun h5 M7=>?_
   repeat(with_reducible first|(apply Wp.obind;exact z6 _)|(refine y8 ?_ ?_;rfl))
   exact z37e (D:=D+5) (op:=5) M7 rfl kt hx
  by_cases h43:at? u j=some 43
  ·have hsg : signAt u j = 6 := z1aa h43
   obtain⟨hj,_⟩:=at?_some h43;have rp:=PartP.sign r1 (by rw[hsg];decide);rw[hsg] at rp;refine⟨_,rp,⟨by omega,by omega⟩,?_⟩;intro n D b h hD hn hn2 k0 hb hx;obtain⟨D,rfl⟩:∃D',D=D'+7:=⟨D - 7,by omega⟩;refine StepN.ok_of ?_;rw[z45];unfold z21;have Mx:=Mem.one k0 hb
   repeat(first|((with_reducible apply yc Mx);clear Mx;intro _ Mx)|rw[z8])
   have M1:=Mx.swap;have hs:=r3 (n:=n) (D:=D+6) (by omega) hn hn2 M1.at0.1 M1.at0.2.1 (by rw[M1.ex];exact hx);refine y25 hs M1 fun c T h2 kt M3=>?_
   (((with_reducible apply Wp.obind);(with_reducible exact z13 _)))
   refine yc M3 fun h3 M4=>?_;rw[z8];refine y11 M4 kt.len rfl kt.one fun h4 M5=>?_;have M6:=M5.swap;have hs1:=z93 (n:=n) (d:=D+3) M6.at0.1 M6.at0.2.1 b2 hu 42;rw[if_neg h42,decide_eq_false h42] at hs1;refine y43 hs1 M6 fun h5 M7=>?_;have hs2:=z93 (n:=n) (d:=D+3) M7.at0.1 M7.at0.2.1 b2 hu 43;rw[if_pos h43,decide_eq_true h43] at hs2
   repeat(with_reducible first|(apply Wp.obind;exact z6 _)|(refine y7 ?_ ?_;rfl))
   refine y43 hs2 M7 fun h6 M8=>?_
   repeat(with_reducible first|(apply Wp.obind;exact z6 _)|(refine y8 ?_ ?_;rfl))
   exact z37e (D:=D+5) (op:=6) M8 rfl kt hx
  by_cases h63:at? u j=some 63
  ·have hsg : signAt u j = 7 := z1aa h63
   obtain⟨hj,_⟩:=at?_some h63;have rp:=PartP.sign r1 (by rw[hsg];decide);rw[hsg] at rp;refine⟨_,rp,⟨by omega,by omega⟩,?_⟩;intro n D b h hD hn hn2 k0 hb hx;obtain⟨D,rfl⟩:∃D',D=D'+7:=⟨D - 7,by omega⟩;refine StepN.ok_of ?_;rw[z45];unfold z21;have Mx:=Mem.one k0 hb
   repeat(first|((with_reducible apply yc Mx);clear Mx;intro _ Mx)|rw[z8])
   have M1:=Mx.swap;have hs:=r3 (n:=n) (D:=D+6) (by omega) hn hn2 M1.at0.1 M1.at0.2.1 (by rw[M1.ex];exact hx);refine y25 hs M1 fun c T h2 kt M3=>?_
   (((with_reducible apply Wp.obind);(with_reducible exact z13 _)))
   refine yc M3 fun h3 M4=>?_;rw[z8];refine y11 M4 kt.len rfl kt.one fun h4 M5=>?_;have M6:=M5.swap;have hs1:=z93 (n:=n) (d:=D+3) M6.at0.1 M6.at0.2.1 b2 hu 42;rw[if_neg h42,decide_eq_false h42] at hs1;refine y43 hs1 M6 fun h5 M7=>?_;have hs2:=z93 (n:=n) (d:=D+3) M7.at0.1 M7.at0.2.1 b2 hu 43;rw[if_neg h43,decide_eq_false h43] at hs2
   repeat(with_reducible first|(apply Wp.obind;exact z6 _)|(refine y7 ?_ ?_;rfl))
   refine y43 hs2 M7 fun h6 M8=>?_;have hs3:=z93 (n:=n) (d:=D+3) M8.at0.1 M8.at0.2.1 b2 hu 63;rw[if_pos h63,decide_eq_true h63] at hs3
   repeat(with_reducible first|(apply Wp.obind;exact z6 _)|(refine y7 ?_ ?_;rfl))
   refine y43 hs3 M8 fun h7 M9=>?_
   repeat(with_reducible first|(apply Wp.obind;exact z6 _)|(refine y8 ?_ ?_;rfl))
   exact z37e (D:=D+5) (op:=7) M9 rfl kt hx
  ·have hsg := z3fb h42 h43 h63
   refine⟨_,.bare r1 hsg,⟨b1,b2⟩,?_⟩;intro n D b h hD hn hn2 k0 hb hx;obtain⟨D,rfl⟩:∃D',D=D'+7:=⟨D - 7,by omega⟩;refine StepN.ok_of ?_;rw[z45];unfold z21;have Mx:=Mem.one k0 hb
   repeat(first|((with_reducible apply yc Mx);clear Mx;intro _ Mx)|rw[z8])
   have M1:=Mx.swap;have hs:=r3 (n:=n) (D:=D+6) (by omega) hn hn2 M1.at0.1 M1.at0.2.1 (by rw[M1.ex];exact hx);refine y25 hs M1 fun c T h2 kt M3=>?_
   (((with_reducible apply Wp.obind);(with_reducible exact z13 _)))
   refine yc M3 fun h3 M4=>?_;rw[z8];refine y11 M4 kt.len rfl kt.one fun h4 M5=>?_;have M6:=M5.swap;have hs1:=z93 (n:=n) (d:=D+3) M6.at0.1 M6.at0.2.1 b2 hu 42;rw[if_neg h42,decide_eq_false h42] at hs1;refine y43 hs1 M6 fun h5 M7=>?_;have hs2:=z93 (n:=n) (d:=D+3) M7.at0.1 M7.at0.2.1 b2 hu 43;rw[if_neg h43,decide_eq_false h43] at hs2
   repeat(with_reducible first|(apply Wp.obind;exact z6 _)|(refine y7 ?_ ?_;rfl))
   refine y43 hs2 M7 fun h6 M8=>?_;have hs3:=z93 (n:=n) (d:=D+3) M8.at0.1 M8.at0.2.1 b2 hu 63;rw[if_neg h63,decide_eq_false h63] at hs3
   repeat(with_reducible first|(apply Wp.obind;exact z6 _)|(refine y7 ?_ ?_;rfl))
   refine y43 hs3 M8 fun h7 M9=>?_
   repeat(with_reducible first|(apply Wp.obind;exact z6 _)|(refine y7 ?_ ?_;rfl))
   refine y1a M9 kt.len ?_;exact z82 (z223 (xs:=[_]) (T0:=[_]) M9) rfl kt
end
section
variable {n d b p q i m:Nat}{h h0:AHeap}{u:z11}{Q:ARes→AHeap→Prop}{S:List Nat}{xs rs T T0 T1:List z9e}{w:List Nat}{x:R}{t:Nd}{c:List AV}{v kv:AV}{l:List Nd}{kc:List (List AV)}
theorem y40{r:Res}(main:∀Q:ARes→AHeap→Prop,(∀t j c T H',r=.ok (t,j)→NodeT t c T→Mem [b] h H' ((b,TRd,rdP u j)::T)→Q (.ret (.agg c)) H')→(∀e p H',r=.error e→Rd H' b u p→Tch [b] h H'→Q (.panic (z28d 6 e)) H')→Wp x Q):StepN b u h x r:=by
 cases r with
 |error e=>exact StepN.err_of (main _ (fun t j c T H' hh=>by cases hh) fun e' p H' hh k5 t5=>by cases hh;exact⟨rfl,p,k5,t5⟩)
 |ok tj=>
  obtain⟨t,j⟩:=tj;exact StepN.ok_of (main _ (fun t' j' c T H' hh k5 t5=>by cases hh;exact⟨c,T,rfl,k5,t5⟩) fun e' p H' hh=>by cases hh)
theorem y30{K:AV→AHeap→R}{y z:z9e}(M:Mem S h0 h (y::((z::(T0++T1))++T)))(g:GrowT z17 6 kc kv T0)(ks:KidsT l kc T1)(kt:NodeT t c T)(hex:z7a z17 h0.ex=false)(hl:l.length≤1000001)(hk:∀kv' h' T0',GrowT z17 6 (kc++[c]) kv' T0'→KidsT (l++[t]) (kc++[c]) (T1++T)→Mem S h0 h' (y::z::(T0'++(T1++T)))→Wp (K kv' h') Q):
  Wp (outK (z122 Tryd.prog h zf5 1 [(0,.agg c)]) fun v12 h29=>outK (z5e Tryd.prog h29 zf5 zf5 kv v12) fun v13 h31=>K v13 h31) Q:=by
 refine y2d M (kt.bld h) kt.one hex fun h1 M1=>?_
 have M2:Mem S h0 h1 ((h.next,z17,c)::(y::z::(T1++T))++T0):=M1.perm (by
  refine List.Perm.cons _ (List.Perm.cons _ (List.Perm.cons _ ?_));show ((T1++T)++T0).Perm ((T0++T1)++T);rw[List.append_assoc T0];exact List.perm_append_comm)
 have hkl:=ks.len;refine Wp.grow M2 g (by kernel_rfl) (by kernel_rfl) (by kernel_rfl) (B:=64) (by kernel_rfl) hex kt.len kt.one (by omega) (by omega) fun kv' h' T0' g' M3=>?_;refine hk kv' h' T0' g' (KidsT.snoc kt ks) (M3.perm ?_);exact List.Perm.cons _ (List.Perm.cons _ List.perm_append_comm)
theorem at?_none(h:at? u i=none)(hi:i≤u.length):i=u.length:=by
 by_cases hp:i<u.length
 ·rw [at?_lt hp] at h
  cases h
 ·omega
theorem z444(hu:u.length≤1000000)(ih:PartOk u m):∀(k i:Nat) (l:List Nd),i≤u.length→u.length - i≤m→u.length - i<k→l.length≤i→∃r,RowP u l i r∧Bnd u i r∧
   ∀{n D f b r0:Nat} {S:List Nat} {h0 H:AHeap} {kc:List (List AV)} {kv:AV} {T0 T1:List z9e} {z:List AV} {k7:AV→AHeap→R} {Q:ARes→AHeap→Prop},4*m+7≤D→300<n→u.length+5<n→u.length - i<f→GrowT z17 6 kc kv T0→KidsT l kc T1→z7a z17 h0.ex=false→
    Mem S h0 H ((b,TRd,rdP u i)::(r0,z17,z)::(T0++T1))→
    (∀l' j kc kv T0 T1 H',r=.ok (z1a0 3 l',j)→GrowT z17 6 kc kv T0→KidsT l' kc T1→Mem S h0 H' ((b,TRd,rdP u j)::(r0,z17,z)::(T0++T1))→Wp (k7 kv H') Q)→
    (∀e p H',r=.error e→Rd H' b u p→Tch S h0 H'→Q (.panic (z28d 6 e)) H')→
    Wp (z46 (world n D) (.ptr b 0) k7 f kv H) Q
 |0,_,_,_,_,hk,_=>by omega
 |k+1,i,l,hi,hm,hk,hli=>by
  by_cases hst:z16b u i
  ·refine ⟨_, .stop hst, ⟨Nat.le_refl _, hi⟩, ?_⟩
   intro n D f b r0 S h0 H kc kv T0 T1 z k7 Q hD hn hn2 hf g ks hex M hok hbad;obtain⟨D,rfl⟩:∃D',D=D'+7:=⟨D - 7,by omega⟩
   cases f with
   |zero=>omega
   |succ f=>
    have he:=z190 (n:=n) (d:=D+6) M.at0.1;have h1:world n (D+7) 70 [.ptr b 0,.int .u8 124] H=some (.ret (.bool (decide (at? u i=some 124))),H):=z2b9 (n:=n) (d:=D+5) M.at0.1 hi 124;have h2:world n (D+7) 70 [.ptr b 0,.int .u8 41] H=some (.ret (.bool (decide (at? u i=some 41))),H):=z2b9 (n:=n) (d:=D+5) M.at0.1 hi 41;have hfin:=hok l i kc kv T0 T1 H rfl g ks M;rw[z52];unfold z39
    rcases hst with hc|hc|hc
    ·have := at?_none hc hi
     rw[decide_eq_true this] at he
     repeat(with_reducible first|refine y5 (fun _ _=>?_)|refine Wp.lett ?_|(apply Wp.obind;exact z6 _)|(refine y7 ?_ ?_;first|rfl|exact Bool.not_true)|(apply Wp.callN;assumption)|refine yd (by assumption) ?_)
     exact hfin
    ·obtain ⟨hp, _⟩ := at?_some hc
     rw[decide_eq_false (by omega)] at he;rw[decide_eq_true hc] at h1
     repeat(with_reducible first|refine y5 (fun _ _=>?_)|refine Wp.lett ?_|(apply Wp.obind;exact z6 _)|(refine y8 ?_ ?_;exact Bool.not_false)|(refine y7 ?_ ?_;first|rfl|exact Bool.not_true)|(apply Wp.callN;assumption)|refine yd (by assumption) ?_)
     exact hfin
    ·obtain ⟨hp, _⟩ := at?_some hc
     rw[decide_eq_false (by omega)] at he;rw[decide_eq_false (by rw[hc];decide)] at h1;rw[decide_eq_true hc] at h2
     repeat(with_reducible first|refine y5 (fun _ _=>?_)|refine Wp.lett ?_|(apply Wp.obind;exact z6 _)|(refine y8 ?_ ?_;exact Bool.not_false)|(refine y7 ?_ ?_;exact Bool.not_true)|(apply Wp.callN;assumption)|refine yd (by assumption) ?_)
     exact hfin
  ·have hlt : i < u.length := by
    rcases Nat.lt_or_ge i u.length with h|h
    ·exact h
    ·exact absurd (.inl (at?_ge h)) hst
   have n1:at? u i≠some 124:=fun hh=>hst (.inr (.inl hh))
   have n2:at? u i≠some 41:=fun hh=>hst (.inr (.inr hh))
   obtain⟨r,r1,r2,r3⟩:=ih i hi hm
   cases r with
   |error e=>
    refine⟨_,.bad hst r1,r2,?_⟩;intro n D f b r0 S h0 H kc kv T0 T1 z k7 Q hD hn hn2 hf g ks hex M hok hbad;obtain⟨D,rfl⟩:∃D',D=D'+7:=⟨D - 7,by omega⟩
    cases f with
    |zero=>omega
    |succ f=>
     have he:=z190 (n:=n) (d:=D+6) M.at0.1;have h1:world n (D+7) 70 [.ptr b 0,.int .u8 124] H=some (.ret (.bool (decide (at? u i=some 124))),H):=z2b9 (n:=n) (d:=D+5) M.at0.1 hi 124;have h2:world n (D+7) 70 [.ptr b 0,.int .u8 41] H=some (.ret (.bool (decide (at? u i=some 41))),H):=z2b9 (n:=n) (d:=D+5) M.at0.1 hi 41;rw[decide_eq_false (by omega)] at he;rw[decide_eq_false n1] at h1;rw[decide_eq_false n2] at h2;have hs:=r3 (n:=n) (D:=D+7) (by omega) hn hn2 M.at0.1 M.at0.2.1 (by rw[M.ex];exact hex);rw[z52];unfold z39
     repeat(first|(with_reducible first|refine y5 (fun _ _=>?_)|refine Wp.lett ?_|(apply Wp.obind;exact z6 _)|(refine y8 ?_ ?_;exact Bool.not_false))|((with_reducible first|apply Wp.callN|apply Wp.callK);(with_reducible assumption))|(with_reducible refine yd (by assumption) ?_))
     exact y38 hs M fun h' p k1 t1=>hbad e p h' rfl k1 t1
   |ok tj=>
    obtain⟨t,j⟩:=tj;obtain⟨b1,b2⟩:=r2;obtain⟨r,q1,q2,q3⟩:=z444 hu ih k j (l++[t]) b2 (by omega) (by omega) (by simp;omega);refine⟨r,.more hst r1 q1,?_,?_⟩
    ·cases r with
     |error e=>exact q2
     |ok tj2=>
      obtain⟨a1,a2⟩:=q2;exact⟨by omega,a2⟩
    ·intro n D f b r0 S h0 H kc kv T0 T1 z k7 Q hD hn hn2 hf g ks hex M hok hbad
     obtain⟨D,rfl⟩:∃D',D=D'+7:=⟨D - 7,by omega⟩
     cases f with
     |zero=>omega
     |succ f=>
      have he:=z190 (n:=n) (d:=D+6) M.at0.1;have h1:world n (D+7) 70 [.ptr b 0,.int .u8 124] H=some (.ret (.bool (decide (at? u i=some 124))),H):=z2b9 (n:=n) (d:=D+5) M.at0.1 hi 124;have h2:world n (D+7) 70 [.ptr b 0,.int .u8 41] H=some (.ret (.bool (decide (at? u i=some 41))),H):=z2b9 (n:=n) (d:=D+5) M.at0.1 hi 41;rw[decide_eq_false (by omega)] at he;rw[decide_eq_false n1] at h1;rw[decide_eq_false n2] at h2;have hs:=r3 (n:=n) (D:=D+7) (by omega) hn hn2 M.at0.1 M.at0.2.1 (by rw[M.ex];exact hex);rw[z52];unfold z39
      repeat(first|(with_reducible first|refine y5 (fun _ _=>?_)|refine Wp.lett ?_|(apply Wp.obind;exact z6 _)|(refine y8 ?_ ?_;exact Bool.not_false))|((with_reducible first|apply Wp.callN|apply Wp.callK);(with_reducible assumption))|(with_reducible refine yd (by assumption) ?_))
      refine y25 hs M fun c T h2 kt M3=>?_
      (((with_reducible apply Wp.obind);(with_reducible exact z13 _)))
      refine y30 M3 g ks kt hex (by omega) fun kv' h' T0' g' ks' M4=>?_;exact q3 hD hn hn2 (by omega) g' ks' hex M4 hok hbad
theorem row_ok(hu:u.length≤1000000)(ih:PartOk u m):RowOk u m:=by
 intro i hi hm;obtain⟨r,r1,r2,r3⟩:=z444 hu ih (u.length+1) i [] hi hm (by omega) (Nat.zero_le _);refine⟨r,r1,r2,?_⟩;intro n D b h hD hn hn2 k0 hb hx;obtain⟨D,rfl⟩:∃D',D=D'+8:=⟨D - 8,by omega⟩;refine y40 fun Q q1 q2=>?_;rw[z167];unfold z42;refine yc (Mem.one k0 hb) fun h1 Mx=>?_;rw[z8];have M1:=Mx.swap
 ((with_reducible refine y5 (fun _ _=>?_)))
 rename_i k7 ek7;refine r3 (r0:=h.next) (by omega) hn hn2 (by omega) (GrowT.nil _ _) .nil hx M1 ?_ q2;intro l' j kc kv T0 T1 H' hr g ks M2;refine yd ek7 ?_;obtain⟨c,T,h2,e2,kt,M3⟩:=inRow_r (n:=n) (d:=D+5) (xs:=[_,_]) M2 g ks
 repeat(with_reducible first|(apply Wp.obind;exact z13 _)|(apply Wp.callN;assumption))
 refine(z82 M3 rfl kt).mono ?_
 rintro _ h3 ⟨c3,T3,rfl,kt3,M4⟩
 exact q1 _ _ _ _ _ hr kt3 M4
end
section
variable {n d b p q i m:Nat}{h h0:AHeap}{u:z11}{Q:ARes→AHeap→Prop}{S:List Nat}{xs rs T T0 T1:List z9e}{w:List Nat}{x:R}{t:Nd}{c:List AV}{v kv:AV}{l:List Nd}{kc:List (List AV)}
theorem z480(hu:u.length≤1000000)(ih:RowOk u m):∀(k j:Nat) (l:List Nd),j≤u.length→u.length - j≤m→u.length - j<k→l.length≤j+1→l≠[]→∃r,(at? u j=some 124→AltP u l (j+1) r)∧(at? u j≠some 124→r=.ok (z1a0 4 l,j))∧Bnd u j r∧
   ∀{n D f b r0:Nat} {S:List Nat} {h0 H:AHeap} {kc:List (List AV)} {kv:AV} {T0 T1:List z9e} {z:List AV} {k12:AV→AHeap→R} {Q:ARes→AHeap→Prop},4*m+8≤D→300<n→u.length+5<n→u.length - j<f→GrowT z17 6 kc kv T0→KidsT l kc T1→z7a z17 h0.ex=false→
    Mem S h0 H ((b,TRd,rdP u j)::(r0,z17,z)::(T0++T1))→
    (∀l' j kc kv T0 T1 H',l'≠[]→r=.ok (z1a0 4 l',j)→GrowT z17 6 kc kv T0→KidsT l' kc T1→Mem S h0 H' ((b,TRd,rdP u j)::(r0,z17,z)::(T0++T1))→Wp (k12 kv H') Q)→
    (∀e p H',r=.error e→Rd H' b u p→Tch S h0 H'→Q (.panic (z28d 6 e)) H')→
    Wp (z3c (world n D) (.ptr b 0) k12 f kv H) Q
 |0,_,_,_,_,hk,_,_=>by omega
 |k+1,j,l,hi,hm,hk,hli,hne=>by
  by_cases hst:at? u j=some 124
  ·obtain ⟨hp, _⟩ := at?_some hst
   obtain⟨r,r1,r2,r3⟩:=ih (j+1) (by omega) (by omega)
   cases r with
   |error e=>
    refine⟨.error e,fun _=>.bad r1,fun hh=>absurd hst hh,r2,?_⟩;intro n D f b r0 S h0 H kc kv T0 T1 z k12 Q hD hn hn2 hf g ks hex M hok hbad;obtain⟨D,rfl⟩:∃D',D=D'+8:=⟨D - 8,by omega⟩
    cases f with
    |zero=>omega
    |succ f=>
     rw[z4a];unfold z2f;have hs1:=z93 (n:=n) (d:=D+5) M.at0.1 M.at0.2.1 hi hu 124;rw[if_pos hst,decide_eq_true hst] at hs1;refine y43 hs1 M fun h1 M1=>?_;have hs:=r3 (n:=n) (D:=D+8) (by omega) hn hn2 M1.at0.1 M1.at0.2.1 (by rw[M1.ex];exact hex)
     repeat(with_reducible first|(apply Wp.obind;exact z6 _)|(refine y8 ?_ ?_;rfl))
     exact y38 hs M1 fun h' p k1 t1=>hbad e p h' rfl k1 t1
   |ok tj=>
    obtain⟨t,j2⟩:=tj;obtain⟨b1,b2⟩:=r2;obtain⟨r,q1,q2,q3,q4⟩:=z480 hu ih k j2 (l++[t]) b2 (by omega) (by omega) (by simp;omega) (by simp);refine⟨r,fun _=>?_,fun hh=>absurd hst hh,?_,?_⟩
    ·by_cases h2 : at? u j2 = some 124
     ·exact .more r1 h2 (q1 h2)
     ·rw [q2 h2]
      exact .last r1 h2
    ·cases r with
     |error e=>exact q3
     |ok tj2=>
      obtain⟨a1,a2⟩:=q3;exact⟨by omega,a2⟩
    ·intro n D f b r0 S h0 H kc kv T0 T1 z k12 Q hD hn hn2 hf g ks hex M hok hbad
     obtain⟨D,rfl⟩:∃D',D=D'+8:=⟨D - 8,by omega⟩
     cases f with
     |zero=>omega
     |succ f=>
      rw[z4a];unfold z2f;have hs1:=z93 (n:=n) (d:=D+5) M.at0.1 M.at0.2.1 hi hu 124;rw[if_pos hst,decide_eq_true hst] at hs1;refine y43 hs1 M fun h1 M1=>?_;have hs:=r3 (n:=n) (D:=D+8) (by omega) hn hn2 M1.at0.1 M1.at0.2.1 (by rw[M1.ex];exact hex)
      repeat(with_reducible first|(apply Wp.obind;exact z6 _)|(refine y8 ?_ ?_;rfl))
      refine y25 hs M1 fun c T h2 kt M3=>?_
      (((with_reducible apply Wp.obind);(with_reducible exact z13 _)))
      refine y30 M3 g ks kt hex (by omega) fun kv' h' T0' g' ks' M4=>?_;exact q4 hD hn hn2 (by omega) g' ks' hex M4 hok hbad
  ·refine ⟨.ok (z1a0 4 l, j), fun hh => absurd hh hst, fun _ => rfl, ⟨Nat.le_refl _, hi⟩, ?_⟩
   intro n D f b r0 S h0 H kc kv T0 T1 z k12 Q hD hn hn2 hf g ks hex M hok hbad;obtain⟨D,rfl⟩:∃D',D=D'+8:=⟨D - 8,by omega⟩
   cases f with
   |zero=>omega
   |succ f=>
    rw[z4a];unfold z2f;have hs1:=z93 (n:=n) (d:=D+5) M.at0.1 M.at0.2.1 hi hu 124;rw[if_neg hst,decide_eq_false hst] at hs1;refine y43 hs1 M fun h1 M1=>?_
    repeat(with_reducible first|(apply Wp.obind;exact z6 _)|(refine y7 ?_ ?_;rfl))
    exact hok l j kc kv T0 T1 h1 hne rfl g ks M1
theorem alt_ok(hu:u.length≤1000000)(ih:RowOk u m):AltOk u m:=by
 intro i hi hm;obtain⟨r,r1,r2,r3⟩:=ih i hi hm
 cases r with
 |error e=>
  refine⟨.error e,.bad r1,r2,?_⟩;intro n D b h hD hn hn2 k0 hb hx;obtain⟨D,rfl⟩:∃D',D=D'+9:=⟨D - 9,by omega⟩;refine StepN.err_of ?_;rw[zb3];unfold z31;refine yc (Mem.one k0 hb) fun h1 Mx=>?_;have M1:=Mx.swap;have hs:=r3 (n:=n) (D:=D+8) (by omega) hn hn2 M1.at0.1 M1.at0.2.1 (by rw[M1.ex];exact hx);exact y38 hs M1 fun h' p k1 t1=>⟨rfl,p,k1,t1⟩
 |ok tj=>
  obtain⟨t,j⟩:=tj;obtain⟨b1,b2⟩:=r2;obtain⟨r,q1,q2,q3,q4⟩:=z480 hu ih (u.length+1) j [t] b2 (by omega) (by omega) (by simp) (by simp);refine⟨r,?_,?_,?_⟩
  ·by_cases h2 : at? u j = some 124
   ·exact .more (l:=[]) r1 h2 (q1 h2)
   ·rw [q2 h2]
    exact .last (l:=[]) r1 h2
  ·cases r with
   |error e=>exact q3
   |ok tj2=>
    obtain⟨a1,a2⟩:=q3;exact⟨by omega,a2⟩
  intro n D b h hD hn hn2 k0 hb hx;obtain⟨D,rfl⟩:∃D',D=D'+9:=⟨D - 9,by omega⟩;refine y40 fun Q o1 o2=>?_;rw[zb3];unfold z31;refine yc (Mem.one k0 hb) fun h1 Mx=>?_;have M1:=Mx.swap;have hs:=r3 (n:=n) (D:=D+8) (by omega) hn hn2 M1.at0.1 M1.at0.2.1 (by rw[M1.ex];exact hx);refine y25 hs M1 fun c T h2 kt M3=>?_
  (((with_reducible apply Wp.obind);(with_reducible exact z13 _)))
  refine y2d M3 (kt.bld h2) kt.one hx fun h3 M4=>?_
  ((with_reducible refine y5 (fun _ _=>?_)))
  rename_i k12 ek12
  have M5:Mem [b] h h3 ((b,TRd,rdP u j)::(h.next,z17,[.int .i64 0,.int .u64 0,.int .u64 0,.int .u64 0,.int .u64 0,.nsl])::([(h2.next,z17,c)]++(T++[]))):=M4.perm (by
   rw[List.append_nil];exact List.perm_append_comm_assoc [_,_] [_] T)
  refine q4 (r0:=h.next) (by omega) hn hn2 (by omega) (z2a3 c h2.next kt.len kt.one) (KidsT.cons kt .nil) hx M5 ?_ o2;intro l' j' kc kv T0 T1 H' hne hr g ks M6;refine yd ek12 ?_;have hlen:=g.len;have hkl:=ks.len
  match l',hne,hr,ks,hkl with
  |[t'],_,hr,ks,hkl=>
   obtain⟨c',rfl,kt'⟩:=ks.one;obtain⟨q,rfl,rfl⟩:=z227 g;have ei:ze8 6 (.sl q 0 1 6) 0=some (.ptr q 0):=idx0 q 0;have hl1:z249 (.sl q 0 1 6)=some 1:=rfl
   repeat(first|(with_reducible first|refine Wp.lett ?_|(apply Wp.obind;first|exact hl1|exact ei))|((with_reducible refine y8 ?_ ?_;apply z28);omega)|rw[z8])
   refine Wp.obind (RowH.ldAll (Mem.at (xs:=[_,_]) M6).1 kt'.len) ?_;refine(z82 (z223 (xs:=[_,_]) (T0:=[_]) M6) rfl kt').mono ?_
   rintro _ h3 ⟨c3,T3,rfl,kt3,M7⟩
   exact o1 _ _ _ _ _ hr kt3 M7
  |t1::t2::ts,_,hr,ks,hkl=>
   simp only[List.length_cons] at hkl;have hl:=zf0 (kv:=kv) (op:=4) z3b;have ho:=z57 (op:=4) (w:=zeroW) g.one.1;obtain⟨h4,e4,t4⟩:=z450 (n:=n) (d:=D+7) (h:=H') g 4;have kt4:NodeT (z1a0 4 (t1::t2::ts)) (z25 4 zeroW kv) (T0++T1):=NodeT.mk z3b g ks;have e5:world n (D+8) 62 [.int .i64 4,kv] H'=some (.ret (.agg (z25 4 zeroW kv)),h4):=e4
   repeat(first|(with_reducible first|refine Wp.lett ?_|(apply Wp.obind;first|exact hlen|exact z13 _))|((with_reducible refine y7 ?_ ?_;apply z2e);omega)|(with_reducible apply Wp.callN;exact e5)|rw[z8])
   refine(z82 (M6.keep t4) rfl kt4).mono ?_
   rintro _ h3 ⟨c3,T3,rfl,kt3,M7⟩
   exact o1 _ _ _ _ _ hr kt3 M7
theorem alts_ok(hu:u.length≤1000000):∀m,AltOk u m
 |0=>alt_ok hu (row_ok hu (z18c hu (atom_ok hu fun m' hm=>by omega)))
 | m + 1 => alt_ok hu (row_ok hu (z18c hu (atom_ok hu fun m' hm => by
   obtain rfl:m=m':=by omega
   exact alts_ok hu m)))
end
def z23f(u:z11)(i:Nat):Res:=match at? u i with
 |none=>.error i
 |some c=>.ok (z294 c,i+1)
def z21b(u:z11)(i:Nat):Res:=match at? u i with
 |none=>.error i
 | some c => if c = 42 then .ok (z30b 5 [anyN], i + 1) else if c = 63 then .ok (anyN, i + 1) else if c = 92 then (match at? u (i + 1) with
   |none=>.error (i+1)
   |some e=>.ok (z294 e,i+2))
  else .ok (z294 c,i+1)
inductive FlatP (F:Nat→Res) (u:z11):List Nd→Nat→Res→Prop
 |stop {l:List Nd} {i:Nat} (s:u.length≤i):FlatP F u l i (.ok (z1a0 3 l,i))
 |bad {l:List Nd} {i q:Nat} (s:i<u.length) (h:F i=.error q):FlatP F u l i (.error q)
 |more {l:List Nd} {i j:Nat} {t:Nd} {r:Res} (s:i<u.length) (h:F i=.ok (t,j)) (m:FlatP F u (l++[t]) j r):FlatP F u l i r
def PartF(u:z11)(fid:Nat)(F:Nat→Res):Prop:=(∀i,i≤u.length→Bnd1 u i (F i))∧
 ∀{n D b i:Nat} {h:AHeap},4≤D→300<n→i≤u.length→Rd h b u i→b<h.next→z7a z17 h.ex=false→StepN b u h (world n D fid [.ptr b 0] h) (F i)
theorem dynL(call:zf)(b:Nat)(h:AHeap):dynC Tryd.prog call (AV.fn 57 [.ptr b 0] []) [] h=call 57 [.ptr b 0] h:=by
 have e:z3e1 Tryd.prog h [] (some (AV.fn 57 [.ptr b 0] []))=some (.call 57 [.ptr b 0],h):=by kernel_rfl
 unfold dynC;rw[e]
theorem dynG(call:zf)(b:Nat)(h:AHeap):dynC Tryd.prog call (AV.fn 54 [.ptr b 0] []) [] h=call 54 [.ptr b 0] h:=by
 have e:z3e1 Tryd.prog h [] (some (AV.fn 54 [.ptr b 0] []))=some (.call 54 [.ptr b 0],h):=by kernel_rfl
 unfold dynC;rw[e]
section
variable {n d b p q i m:Nat}{h h0:AHeap}{u:z11}{Q:ARes→AHeap→Prop}{S:List Nat}{xs rs T T0 T1:List z9e}{w:List Nat}{x:R}{t:Nd}{c:List AV}{v kv:AV}{l:List Nd}{kc:List (List AV)}
theorem partL_f(hu:u.length≤1000000):PartF u 57 (z23f u):=by
 refine⟨fun i hi=>?_,?_⟩
 ·unfold z23f
  cases hc:at? u i with
  |none=>exact hi
  |some c=>
   obtain⟨hp,_⟩:=at?_some hc;exact⟨by omega,by omega⟩
 intro n D b i h hD hn hi k0 hb hx;obtain⟨D,rfl⟩:∃D',D=D'+4:=⟨D - 4,by omega⟩;unfold z23f;cases hc:at? u i with
 |none=>
  refine StepN.err_of ?_;rw[zc5];unfold z36;refine yc (Mem.one k0 hb) fun h1 Mx=>?_;have M1:=Mx.swap;have hs:=zac (n:=n) (d:=D+1) M1.at0.1 M1.at0.2.1 hi hu;rw[hc] at hs;exact y54 hs M1 fun h' p k1 t1=>⟨rfl,p,k1,t1⟩
 |some c=>
  have h256:=at?_256 hc;refine StepN.ok_of ?_;rw[zc5];unfold z36;refine yc (Mem.one k0 hb) fun h1 Mx=>?_;have M1:=Mx.swap;have hs:=zac (n:=n) (d:=D+1) M1.at0.1 M1.at0.2.1 hi hu;rw[hc] at hs;refine y2c hs M1 fun h2 M2=>?_
  repeat(first|(with_reducible first|(apply Wp.obind;first|exact z5 _ _|exact z13 _)|(apply Wp.callN;exact z1e1 (d:=D+1) hn h256))|rw[z8])
  exact z82 M2 rfl (y19 2 (zae 1 z3b c))
theorem partG_f(hu:u.length≤1000000):PartF u 54 (z21b u):=by
 refine⟨fun i hi=>?_,?_⟩
 ·unfold z21b
  cases hc:at? u i with
  |none=>exact hi
  |some c=>
   obtain⟨hp,_⟩:=at?_some hc;dsimp only
   split
   ·exact⟨by omega,by omega⟩
   ·split
    ·exact⟨by omega,by omega⟩
    ·split
     ·cases he : at? u (i + 1) with
      |none=>exact(by omega:i+1≤u.length)
      |some e=>
       obtain⟨hp2,_⟩:=at?_some he;exact⟨by omega,by omega⟩
     ·exact⟨by omega,by omega⟩
 intro n D b i h hD hn hi k0 hb hx;obtain⟨D,rfl⟩:∃D',D=D'+4:=⟨D - 4,by omega⟩;unfold z21b;cases hc:at? u i with
 |none=>
  refine StepN.err_of ?_;rw[z40];unfold z23;refine yc (Mem.one k0 hb) fun h1 Mx=>?_;have M1:=Mx.swap;have hs:=zac (n:=n) (d:=D+1) M1.at0.1 M1.at0.2.1 hi hu;rw[hc] at hs;exact y54 hs M1 fun h' p k1 t1=>⟨rfl,p,k1,t1⟩
 |some c=>
  obtain⟨hp,_⟩:=at?_some hc;have h256:=at?_256 hc;dsimp only
  by_cases h42:c=42
  ·rw [if_pos h42]
   refine StepN.ok_of ?_;rw[z40];unfold z23;refine yc (Mem.one k0 hb) fun h1 Mx=>?_;have M1:=Mx.swap;have hs:=zac (n:=n) (d:=D+1) M1.at0.1 M1.at0.2.1 hi hu;rw[hc] at hs;refine y2c hs M1 fun h2 M2=>?_;have kt:NodeT anyN (z25 2 z399 .nsl) []:=y19 2 z22e
   repeat(first|(with_reducible first|refine Wp.lett ?_|(apply Wp.obind;first|exact z5 _ _|exact z13 _))|((with_reducible refine y8 ?_ ?_;apply z28);omega)|(with_reducible apply Wp.callN;exact z2f8 (d:=D+1) hn)|rw[z8])
   refine y2d M2 (kt.bld h2) kt.one hx fun h3 M3=>?_;obtain⟨h4,e4,t4⟩:=z450 (n:=n) (d:=D+2) (h:=h3) (z2a3 _ h2.next kt.len kt.one) 5;refine Wp.callN e4 ?_;have M4:=M3.keep t4;refine Wp.obind (z13 _) ?_;have M5:Mem [b] h h4 ((b,TRd,rdP u (i+1))::(h.next,z17,[.int .i64 0,.int .u64 0,.int .u64 0,.int .u64 0,.int .u64 0,.nsl])::([(h2.next,z17,z25 2 z399 .nsl)]++([]++[]))):=M4.perm (List.perm_append_comm (l₁:=[_,_]) (l₂:=[_]));exact z82 M5 rfl (signed kt 5 h2.next)
  rw[if_neg h42]
  by_cases h63:c=63
  ·rw [if_pos h63]
   refine StepN.ok_of ?_;rw[z40];unfold z23;refine yc (Mem.one k0 hb) fun h1 Mx=>?_;have M1:=Mx.swap;have hs:=zac (n:=n) (d:=D+1) M1.at0.1 M1.at0.2.1 hi hu;rw[hc] at hs;refine y2c hs M1 fun h2 M2=>?_
   repeat(first|(with_reducible first|refine Wp.lett ?_|(apply Wp.obind;first|exact z5 _ _|exact z13 _))|((with_reducible refine y8 ?_ ?_;apply z28);omega)|((with_reducible refine y7 ?_ ?_;apply z2e);omega)|(with_reducible apply Wp.callN;exact z2f8 (d:=D+1) hn)|rw[z8])
   exact z82 M2 rfl (y19 2 z22e)
  rw[if_neg h63]
  by_cases h92:c=92
  ·rw [if_pos h92]
   cases he:at? u (i+1) with
   |none=>
    refine StepN.err_of ?_;rw[z40];unfold z23;refine yc (Mem.one k0 hb) fun h1 Mx=>?_;have M1:=Mx.swap;have hs:=zac (n:=n) (d:=D+1) M1.at0.1 M1.at0.2.1 hi hu;rw[hc] at hs;refine y2c hs M1 fun h2 M2=>?_;have hs2:=zac (n:=n) (d:=D+1) M2.at0.1 M2.at0.2.1 (by omega) hu;rw[he] at hs2
    repeat(first|(with_reducible first|refine Wp.lett ?_|(apply Wp.obind;exact z5 _ _))|((with_reducible refine y8 ?_ ?_;apply z28);omega)|((with_reducible refine y7 ?_ ?_;apply z2e);omega)|rw[z8])
    exact y54 hs2 M2 fun h' p k1 t1=>⟨rfl,p,k1,t1⟩
   |some e=>
    refine StepN.ok_of ?_;rw[z40];unfold z23;refine yc (Mem.one k0 hb) fun h1 Mx=>?_;have M1:=Mx.swap;have hs:=zac (n:=n) (d:=D+1) M1.at0.1 M1.at0.2.1 hi hu;rw[hc] at hs;refine y2c hs M1 fun h2 M2=>?_;have hs2:=zac (n:=n) (d:=D+1) M2.at0.1 M2.at0.2.1 (by omega) hu;rw[he] at hs2
    repeat(first|(with_reducible first|refine Wp.lett ?_|(apply Wp.obind;exact z5 _ _))|((with_reducible refine y8 ?_ ?_;apply z28);omega)|((with_reducible refine y7 ?_ ?_;apply z2e);omega)|rw[z8])
    refine y2c hs2 M2 fun h3 M3=>?_
    repeat(with_reducible first|(apply Wp.obind;first|exact z5 _ _|exact z13 _)|(apply Wp.callN;exact z1e1 (d:=D+1) hn (at?_256 he)))
    exact z82 M3 rfl (y19 2 (zae 1 z3b e))
  rw[if_neg h92];refine StepN.ok_of ?_;rw[z40];unfold z23;refine yc (Mem.one k0 hb) fun h1 Mx=>?_;have M1:=Mx.swap;have hs:=zac (n:=n) (d:=D+1) M1.at0.1 M1.at0.2.1 hi hu;rw[hc] at hs;refine y2c hs M1 fun h2 M2=>?_
  repeat(first|(with_reducible first|refine Wp.lett ?_|(apply Wp.obind;first|exact z5 _ _|exact z13 _))|((with_reducible refine y7 ?_ ?_;apply z2e);omega)|(with_reducible apply Wp.callN;exact z1e1 (d:=D+1) hn h256)|rw[z8])
  exact z82 M2 rfl (y19 2 (zae 1 z3b c))
theorem z3d9{fid:Nat}{F:Nat→Res}(hu:u.length≤1000000)(hF:PartF u fid F)(hdyn:∀(call:zf) (b:Nat) (h:AHeap),dynC Tryd.prog call (AV.fn fid [.ptr b 0] []) [] h=call fid [.ptr b 0] h):∀(k i:Nat) (l:List Nd),i≤u.length→u.length - i<k→l.length≤i→∃r,FlatP F u l i r∧Bnd u i r∧
   ∀{n D f b r0:Nat} {S:List Nat} {h0 H:AHeap} {kc:List (List AV)} {kv:AV} {T0 T1:List z9e} {z:List AV} {k7:AV→AHeap→R} {Q:ARes→AHeap→Prop},4≤D→300<n→u.length - i<f→GrowT z17 6 kc kv T0→KidsT l kc T1→z7a z17 h0.ex=false→
    Mem S h0 H ((b,TRd,rdP u i)::(r0,z17,z)::(T0++T1))→
    (∀l' j kc kv T0 T1 H',r=.ok (z1a0 3 l',j)→GrowT z17 6 kc kv T0→KidsT l' kc T1→Mem S h0 H' ((b,TRd,rdP u j)::(r0,z17,z)::(T0++T1))→Wp (k7 kv H') Q)→
    (∀e p H',r=.error e→Rd H' b u p→Tch S h0 H'→Q (.panic (z28d 6 e)) H')→
    Wp (z72 (world n D) (.ptr b 0) (AV.fn fid [.ptr b 0] []) k7 f kv H) Q
 |0,_,_,_,hk,_=>by omega
 |k+1,i,l,hi,hk,hli=>by
  by_cases hst:u.length≤i
  ·refine ⟨_, .stop hst, ⟨Nat.le_refl _, hi⟩, ?_⟩
   intro n D f b r0 S h0 H kc kv T0 T1 z k7 Q hD hn hf g ks hex M hok hbad;obtain⟨D,rfl⟩:∃D',D=D'+4:=⟨D - 4,by omega⟩
   cases f with
   |zero=>omega
   |succ f=>
    have he:=z190 (n:=n) (d:=D+3) M.at0.1;have hfin:=hok l i kc kv T0 T1 H rfl g ks M;rw[z81];unfold z54;rw[decide_eq_true (by omega)] at he
    repeat(with_reducible first|refine Wp.lett ?_|(apply Wp.obind;exact z6 _)|(refine y7 ?_ ?_;exact Bool.not_true)|(apply Wp.callN;assumption))
    exact hfin
  ·have hb1 := hF.1 i hi
   cases hr:F i with
   |error e=>
    rw[hr] at hb1;refine⟨_,.bad (by omega) hr,hb1,?_⟩;intro n D f b r0 S h0 H kc kv T0 T1 z k7 Q hD hn hf g ks hex M hok hbad;obtain⟨D,rfl⟩:∃D',D=D'+4:=⟨D - 4,by omega⟩
    cases f with
    |zero=>omega
    |succ f=>
     have he:=z190 (n:=n) (d:=D+3) M.at0.1;rw[decide_eq_false (by omega)] at he;have hs:=hF.2 (n:=n) (D:=D+4) (by omega) hn hi M.at0.1 M.at0.2.1 (by rw[M.ex];exact hex);rw[hr] at hs;rw[z81];unfold z54
     repeat(first|(with_reducible first|refine Wp.lett ?_|(apply Wp.obind;exact z6 _)|(refine y8 ?_ ?_;exact Bool.not_false))|((with_reducible first|apply Wp.callN|apply Wp.callK);(with_reducible assumption)))
     rw[hdyn];exact y38 hs M fun h' p k1 t1=>hbad e p h' rfl k1 t1
   |ok tj=>
    obtain⟨t,j⟩:=tj;rw[hr] at hb1;obtain⟨b1,b2⟩:=hb1;obtain⟨r,q1,q2,q3⟩:=z3d9 hu hF hdyn k j (l++[t]) b2 (by omega) (by simp;omega);refine⟨r,.more (by omega) hr q1,?_,?_⟩
    ·cases r with
     |error e=>exact q2
     |ok tj2=>
      obtain⟨a1,a2⟩:=q2;exact⟨by omega,a2⟩
    ·intro n D f b r0 S h0 H kc kv T0 T1 z k7 Q hD hn hf g ks hex M hok hbad
     obtain⟨D,rfl⟩:∃D',D=D'+4:=⟨D - 4,by omega⟩
     cases f with
     |zero=>omega
     |succ f=>
      have he:=z190 (n:=n) (d:=D+3) M.at0.1;rw[decide_eq_false (by omega)] at he;have hs:=hF.2 (n:=n) (D:=D+4) (by omega) hn hi M.at0.1 M.at0.2.1 (by rw[M.ex];exact hex);rw[hr] at hs;rw[z81];unfold z54
      repeat(first|(with_reducible first|refine Wp.lett ?_|(apply Wp.obind;exact z6 _)|(refine y8 ?_ ?_;exact Bool.not_false))|((with_reducible first|apply Wp.callN|apply Wp.callK);(with_reducible assumption)))
      rw[hdyn];refine y25 hs M fun c T h2 kt M3=>?_
      (((with_reducible apply Wp.obind);(with_reducible exact z13 _)))
      refine y30 M3 g ks kt hex (by omega) fun kv' h' T0' g' ks' M4=>?_;exact q3 hD hn (by omega) g' ks' hex M4 hok hbad
theorem flat_ok{fid:Nat}{F:Nat→Res}(hu:u.length≤1000000)(hF:PartF u fid F)(hdyn:∀(call:zf) (b:Nat) (h:AHeap),dynC Tryd.prog call (AV.fn fid [.ptr b 0] []) [] h=call fid [.ptr b 0] h):∃r,FlatP F u [] 0 r∧Bnd u 0 r∧
  ∀{n D b:Nat} {h:AHeap},5≤D→300<n→u.length<n→Rd h b u 0→b<h.next→z7a z17 h.ex=false→StepN b u h (world n D 53 [.ptr b 0,AV.fn fid [.ptr b 0] []] h) r:=by
 obtain⟨r,r1,r2,r3⟩:=z3d9 hu hF hdyn (u.length+1) 0 [] (Nat.zero_le _) (by omega) (Nat.le_refl _);refine⟨r,r1,r2,?_⟩;intro n D b h hD hn hn2 k0 hb hx;obtain⟨D,rfl⟩:∃D',D=D'+5:=⟨D - 5,by omega⟩;refine y40 fun Q q1 q2=>?_;rw[z206];unfold z77;refine yc (Mem.one k0 hb) fun h1 Mx=>?_;rw[z8];have M1:=Mx.swap
 ((with_reducible refine y5 (fun _ _=>?_)))
 rename_i k7 ek7;refine r3 (r0:=h.next) (by omega) hn (by omega) (GrowT.nil _ _) .nil hx M1 ?_ q2;intro l' j kc kv T0 T1 H' hr g ks M2;refine yd ek7 ?_;obtain⟨c,T,h2,e2,kt,M3⟩:=inRow_r (n:=n) (d:=D+2) (xs:=[_,_]) M2 g ks
 repeat(with_reducible first|(apply Wp.obind;exact z13 _)|(apply Wp.callN;assumption))
 refine(z82 M3 rfl kt).mono ?_
 rintro _ h3 ⟨c3,T3,rfl,kt3,M4⟩
 exact q1 _ _ _ _ _ hr kt3 M4
end
def z29a:Res→Except Nat Nd
 | .ok (t,_)=>.ok t
 | .error q=>.error q
inductive TreeP (u:z11):Int→Except Nat Nd→Prop
 |lit {r:Res} (h:FlatP (z23f u) u [] 0 r):TreeP u 1 (z29a r)
 |glob {r:Res} (h:FlatP (z21b u) u [] 0 r):TreeP u 2 (z29a r)
 |re_bad {q:Nat} (h:AltP u [] 0 (.error q)):TreeP u 3 (.error q)
 |re_end {t:Nd} {j:Nat} (h:AltP u [] 0 (.ok (t,j))) (n:j≠u.length):TreeP u 3 (.error j)
 |re {t:Nd} (h:AltP u [] 0 (.ok (t,u.length))):TreeP u 3 (.ok t)
def StepT(b:Nat)(u:z11)(h:AHeap)(x:R):Except Nat Nd→Prop
 | .ok t=>∃c T h' p,x=some (.ret (.agg c),h')∧NodeT t c T∧Mem [b] h h' ((b,TRd,rdP u p)::T)
 | .error q=>∃h' p,x=some (.panic (z28d 6 q),h')∧Rd h' b u p∧Tch [b] h h'
section
variable {n d b p q i m:Nat}{h h0:AHeap}{u:z11}{Q:ARes→AHeap→Prop}{S:List Nat}{xs rs T T0 T1:List z9e}{w:List Nat}{x:R}{t:Nd}{c:List AV}{v kv:AV}{l:List Nd}{kc:List (List AV)}
theorem StepT.ok_of(kk:Wp x fun r h'=>∃c T p,r=.ret (.agg c)∧NodeT t c T∧Mem [b] h h' ((b,TRd,rdP u p)::T)):StepT b u h x (.ok t):=by
 obtain⟨_,h',e,c,T,p,rfl,k1,k2⟩:=kk;exact⟨c,T,h',p,e,k1,k2⟩
theorem StepT.err_of(kk:Wp x fun r h'=>r=.panic (z28d 6 q)∧∃p,Rd h' b u p∧Tch [b] h h'):StepT b u h x (.error q):=by
 obtain⟨_,h',e,rfl,p,k1,k2⟩:=kk;exact⟨h',p,e,k1,k2⟩
theorem end_r(k:Rd h b u p)(hp:p=u.length):world n (d+2) 56 [.ptr b 0] h=some (.ret (.tup []),h):=by
 have he:=z190 (n:=n) (d:=d) k;rw[decide_eq_true hp] at he;apply Wp.eq;rw[z152];unfold z63
 repeat(with_reducible first|refine y12 (fun _ _=>?_)|refine Wp.lett ?_|(apply Wp.obind;exact z6 _)|(refine y7 ?_ ?_;exact Bool.not_true)|(apply Wp.callN;assumption)|refine y21 (by assumption) ?_)
 exact Wp.ret ⟨rfl,rfl⟩
theorem end_bad(k:Rd h b u p)(hp:p≠u.length):world n (d+2) 56 [.ptr b 0] h=some (.panic (z28d 6 p),h):=by
 have he:=z190 (n:=n) (d:=d) k;rw[decide_eq_false hp] at he;apply Wp.eq;rw[z152];unfold z63;have hr:=z29f (n:=n) (d:=d) (h:=h) 6 p;have k0:RowH h b 76 [z12 u,.int .i64 (p:Int)]:=k;clear k
 repeat(first|(with_reducible first|refine y12 (fun _ _=>?_)|refine Wp.lett ?_)|((with_reducible apply Wp.obind);first|(with_reducible first|exact z5 _ _|exact z6 _|exact z3e _ _|exact ze _ _ _)|((with_reducible apply y10);(with_reducible assumption);rfl))|(with_reducible refine y8 ?_ ?_;exact Bool.not_false)|((with_reducible first|apply Wp.callN|apply Wp.callK);(with_reducible assumption)))
 exact y1f hr ⟨rfl,rfl⟩
theorem tree_r(hu:u.length≤1000000)(kind:Int)(hk:kind=1∨kind=2∨kind=3):∃r,TreeP u kind r∧(∀q,r=.error q→q≤u.length)∧
  ∀{n D b:Nat} {h:AHeap},4*u.length+12≤D→300<n→u.length+5<n→Rd h b u 0→b<h.next→z7a z17 h.ex=false→StepT b u h (world n D 38 [.ptr b 0,.int .i64 kind] h) r:=by
 rcases hk with rfl|rfl|rfl
 ·obtain ⟨r, r1, r2, r3⟩ := flat_ok hu (partL_f hu) dynL
  refine⟨_,.lit r1,?_,?_⟩
  ·intro q hh
   cases r with
   |error e=>
    cases hh;exact r2
   |ok tj=>cases hh
  ·intro n D b h hD hn hn2 k0 hb hx
   obtain⟨D,rfl⟩:∃D',D=D'+6:=⟨D - 6,by omega⟩
   cases r with
   |error e=>
    refine StepT.err_of ?_;rw[z4b];unfold z2b;refine yc (Mem.one k0 hb) fun h1 Mx=>?_;have M1:=Mx.swap;have hs:=r3 (n:=n) (D:=D+5) (by omega) hn (by omega) M1.at0.1 M1.at0.2.1 (by rw[M1.ex];exact hx)
    repeat(first|(with_reducible refine Wp.lett ?_)|((with_reducible refine y7 ?_ ?_;apply z2e);omega)|rw[z8])
    exact y38 hs M1 fun h' p k1 t1=>⟨rfl,p,k1,t1⟩
   |ok tj=>
    obtain⟨t,j⟩:=tj;refine StepT.ok_of ?_;rw[z4b];unfold z2b;refine yc (Mem.one k0 hb) fun h1 Mx=>?_;have M1:=Mx.swap;have hs:=r3 (n:=n) (D:=D+5) (by omega) hn (by omega) M1.at0.1 M1.at0.2.1 (by rw[M1.ex];exact hx)
    repeat(first|(with_reducible refine Wp.lett ?_)|((with_reducible refine y7 ?_ ?_;apply z2e);omega)|rw[z8])
    refine y25 hs M1 fun c T h2 kt M3=>?_
    (((with_reducible apply Wp.obind);(with_reducible exact z13 _)))
    refine(z82 M3 rfl kt).mono ?_
    rintro _ h3 ⟨c3,T3,rfl,kt3,M4⟩
    exact⟨c3,T3,j,rfl,kt3,M4⟩
 ·obtain ⟨r, r1, r2, r3⟩ := flat_ok hu (partG_f hu) dynG
  refine⟨_,.glob r1,?_,?_⟩
  ·intro q hh
   cases r with
   |error e=>
    cases hh;exact r2
   |ok tj=>cases hh
  ·intro n D b h hD hn hn2 k0 hb hx
   obtain⟨D,rfl⟩:∃D',D=D'+6:=⟨D - 6,by omega⟩
   cases r with
   |error e=>
    refine StepT.err_of ?_;rw[z4b];unfold z2b;refine yc (Mem.one k0 hb) fun h1 Mx=>?_;have M1:=Mx.swap;have hs:=r3 (n:=n) (D:=D+5) (by omega) hn (by omega) M1.at0.1 M1.at0.2.1 (by rw[M1.ex];exact hx)
    repeat(first|(with_reducible refine Wp.lett ?_)|((with_reducible refine y8 ?_ ?_;apply z28);omega)|rw[z8])
    exact y38 hs M1 fun h' p k1 t1=>⟨rfl,p,k1,t1⟩
   |ok tj=>
    obtain⟨t,j⟩:=tj;refine StepT.ok_of ?_;rw[z4b];unfold z2b;refine yc (Mem.one k0 hb) fun h1 Mx=>?_;have M1:=Mx.swap;have hs:=r3 (n:=n) (D:=D+5) (by omega) hn (by omega) M1.at0.1 M1.at0.2.1 (by rw[M1.ex];exact hx)
    repeat(first|(with_reducible refine Wp.lett ?_)|((with_reducible refine y8 ?_ ?_;apply z28);omega)|rw[z8])
    refine y25 hs M1 fun c T h2 kt M3=>?_
    (((with_reducible apply Wp.obind);(with_reducible exact z13 _)))
    refine(z82 M3 rfl kt).mono ?_
    rintro _ h3 ⟨c3,T3,rfl,kt3,M4⟩
    exact⟨c3,T3,j,rfl,kt3,M4⟩
 ·obtain ⟨r, r1, r2, r3⟩ := alts_ok hu u.length 0 (Nat.zero_le _) (by omega)
  cases r with
  |error e=>
   refine⟨_,.re_bad r1,fun q hh=>by cases hh;exact r2,?_⟩;intro n D b h hD hn hn2 k0 hb hx;obtain⟨D,rfl⟩:∃D',D=D'+6:=⟨D - 6,by omega⟩;refine StepT.err_of ?_;rw[z4b];unfold z2b;refine yc (Mem.one k0 hb) fun h1 Mx=>?_;have M1:=Mx.swap;have hs:=r3 (n:=n) (D:=D+5) (by omega) hn hn2 M1.at0.1 M1.at0.2.1 (by rw[M1.ex];exact hx)
   repeat(first|(with_reducible refine Wp.lett ?_)|((with_reducible refine y8 ?_ ?_;apply z28);omega)|((with_reducible refine y7 ?_ ?_;apply z2e);omega)|rw[z8])
   exact y38 hs M1 fun h' p k1 t1=>⟨rfl,p,k1,t1⟩
  |ok tj=>
   obtain⟨t,j⟩:=tj
   by_cases hj:j=u.length
   ·subst hj
    refine⟨_,.re r1,fun q hh=>(by cases hh),?_⟩;intro n D b h hD hn hn2 k0 hb hx;obtain⟨D,rfl⟩:∃D',D=D'+6:=⟨D - 6,by omega⟩;refine StepT.ok_of ?_;rw[z4b];unfold z2b;refine yc (Mem.one k0 hb) fun h1 Mx=>?_;have M1:=Mx.swap;have hs:=r3 (n:=n) (D:=D+5) (by omega) hn hn2 M1.at0.1 M1.at0.2.1 (by rw[M1.ex];exact hx)
    repeat(first|(with_reducible refine Wp.lett ?_)|((with_reducible refine y8 ?_ ?_;apply z28);omega)|((with_reducible refine y7 ?_ ?_;apply z2e);omega)|rw[z8])
    refine y25 hs M1 fun c T h2 kt M3=>?_
    (((with_reducible apply Wp.obind);(with_reducible exact z13 _)))
    refine yc M3 fun h3 M4=>?_;rw[z8];refine y11 M4 kt.len rfl kt.one fun h4 M5=>?_;have he:=end_r (n:=n) (d:=D+3) M5.at1.1 rfl;refine Wp.callK he ?_;refine y14 M5 kt.len ?_;refine(z82 (z223 (xs:=[_]) (T0:=[_]) M5.swap) rfl kt).mono ?_
    rintro _ h3 ⟨c3,T3,rfl,kt3,M6⟩
    exact⟨c3,T3,_,rfl,kt3,M6⟩
   ·refine ⟨_, .re_end r1 hj, fun q hh => by cases hh; exact r2.2, ?_⟩
    intro n D b h hD hn hn2 k0 hb hx;obtain⟨D,rfl⟩:∃D',D=D'+6:=⟨D - 6,by omega⟩;refine StepT.err_of ?_;rw[z4b];unfold z2b;refine yc (Mem.one k0 hb) fun h1 Mx=>?_;have M1:=Mx.swap;have hs:=r3 (n:=n) (D:=D+5) (by omega) hn hn2 M1.at0.1 M1.at0.2.1 (by rw[M1.ex];exact hx)
    repeat(first|(with_reducible refine Wp.lett ?_)|((with_reducible refine y8 ?_ ?_;apply z28);omega)|((with_reducible refine y7 ?_ ?_;apply z2e);omega)|rw[z8])
    refine y25 hs M1 fun c T h2 kt M3=>?_
    (((with_reducible apply Wp.obind);(with_reducible exact z13 _)))
    refine yc M3 fun h3 M4=>?_;rw[z8];refine y11 M4 kt.len rfl kt.one fun h4 M5=>?_;have he:=end_bad (n:=n) (d:=D+3) M5.at1.1 hj;exact y1f he ⟨rfl,_,M5.at1.1,M5.tch⟩
end
theorem z388{x:R}{v:AV}{h:AHeap}{kp k:AV→AHeap→R}{Q:ARes→AHeap→Prop}(e:x=some (.ret v,h))(hk:Wp (k v h) Q):Wp (z2f1 x kp k) Q:=by rw[e,callKd_ret];exact hk
theorem z389{x:R}{v:AV}{h:AHeap}{kp k:AV→AHeap→R}{Q:ARes→AHeap→Prop}(e:x=some (.panic v,h))(hk:Wp (kp v h) Q):Wp (z2f1 x kp k) Q:=by rw[e,z3e2];exact hk
theorem neqNil(h:AHeap):z109 Tryd.prog h .neq 20 true (some .nifc) (some .nifc)=some (.val (.bool false),h):=by kernel_rfl
theorem neqPan(h:AHeap)(e:Int)(q:Nat):z109 Tryd.prog h .neq 20 true (some (z28d e q)) (some .nifc)=some (.val (.bool true),h):=by kernel_rfl
theorem assertPan(h:AHeap)(e:Int)(q:Nat):z157 Tryd.prog h 91 true (some (z28d e q))=some (.val (.tup [.agg [.int .i64 e,.int .i64 (q:Int)],.bool true]),h):=by kernel_rfl
abbrev TPtr:Nat:=74
abbrev z312:Nat:=36
section
variable {n d pc rd ft tx mo:Nat}{h h0:AHeap}{u t:z11}{most:Int}{fc:List AV}{S:List Nat}{Q:ARes→AHeap→Prop}{ys:List z9e}
theorem recov_nil{call:zf}{b:Nat}{H:AHeap}:z5d call n (.ptr b 0) .nifc H=some (.ret (.tup []),H):=by
 apply Wp.eq;unfold z5d
 repeat(with_reducible first|refine y12 (fun _ _=>?_)|(apply Wp.obind;exact z6 _)|(refine y7 ?_ ?_;rfl)|(apply Wp.outK;exact neqNil _)|refine y21 (by assumption) ?_)
 exact Wp.ret ⟨rfl,rfl⟩
theorem recov_pan{call:zf}{b:Nat}{H:AHeap}{l:List AV}(hl:l.length=2)(Mx:Mem S h0 H ((b,z312,l)::ys))(e:Int)(q:Nat):∃H',z5d call n (.ptr b 0) (z28d e q) H=some (.ret (.tup []),H')∧Mem S h0 H' ((b,z312,[.int .i64 e,.int .i64 (q:Int)])::ys):=by
 apply Wp.ex;unfold z5d
 repeat(first|(with_reducible apply Wp.obind;exact z6 _)|((with_reducible apply y14 Mx);rfl)|((with_reducible apply y11 Mx);rfl;rfl;(rfl);clear Mx;intro _ Mx)|((with_reducible apply yc Mx);clear Mx;intro _ Mx)|(with_reducible first|refine y12 (fun _ _=>?_)|refine Wp.lett ?_|(apply Wp.obind;first|exact z13 _|exact za0 _ _|exact z9f _ _ _)|(refine y8 ?_ ?_;rfl)|(refine y7 ?_ ?_;exact Bool.not_true)|(apply Wp.outK;first|exact neqPan _ _ _|exact assertPan _ _ _)|refine y21 (by assumption) ?_)|rw[z8])
 refine y1c Mx rfl hl rfl (fun h' M'=>?_)
 repeat((with_reducible refine y21 (by assumption) ?_))
 exact Wp.ret ⟨rfl,M'.pop⟩
end
theorem dynT(call:zf)(a b c:Nat)(h:AHeap):dynC Tryd.prog call (AV.fn 37 [] [.ptr a 0,.ptr b 0,.ptr c 0]) [] h=call 37 [.ptr a 0,.ptr b 0,.ptr c 0] h:=by
 have e:z3e1 Tryd.prog h [] (some (AV.fn 37 [] [.ptr a 0,.ptr b 0,.ptr c 0]))=some (.call 37 [.ptr a 0,.ptr b 0,.ptr c 0],h):=by kernel_rfl
 unfold dynC;rw[e]
section
variable {n D d b p q i m:Nat}{h h0:AHeap}{u:z11}{Q:ARes→AHeap→Prop}{S:List Nat}{xs rs rs' T T0 T1:List z9e}{w:List Nat}{x:R}{t:Nd}{c:List AV}{v kv fv:AV}{l:List Nd}{kc:List (List AV)}
noncomputable abbrev z1d4(pc rd sp nd pt p:Nat)(u:z11)(kind:Int)(c:List AV):List z9e:=[(pc,TPtr,[.ptr rd 0]),(rd,TRd,rdP u p),(sp,z312,[.int .i64 0,.int .i64 0]),(nd,z17,c),(pt,23,[.int .i64 kind,z12 u])]
theorem t1_ok{pc rd sp nd pt:Nat}{kind:Int}{z:List AV}(hz:z.length=6)(hs:∀(h:AHeap),Rd h rd u 0→rd<h.next→z7a z17 h.ex=false→StepT rd u h (world n D 38 [.ptr rd 0,.int .i64 kind] h) (.ok t))(M:Mem S h0 h (z1d4 pc rd sp nd pt 0 u kind z++xs))(hx:z7a z17 h0.ex=false):
  ∃c T h' p,world n (D+1) 37 [.ptr pc 0,.ptr pt 0,.ptr nd 0] h=some (.ret (.tup []),h')∧NodeT t c T∧Mem S h0 h' (z1d4 pc rd sp nd pt p u kind c++(xs++T)):=by
 have Mx:Mem S h0 h ((pc,TPtr,[.ptr rd 0])::(rd,TRd,rdP u 0)::(sp,z312,[.int .i64 0,.int .i64 0])::(nd,z17,z)::(pt,23,[.int .i64 kind,z12 u])::xs):=M;obtain⟨c,T,h1,p,e1,kt,M1⟩:=hs h Mx.at1.1 Mx.at1.2.1 (by rw[Mx.ex];exact hx);have M2:Mem S h0 h1 ((rd,TRd,rdP u p)::(pc,TPtr,[.ptr rd 0])::(sp,z312,[.int .i64 0,.int .i64 0])::(nd,z17,z)::(pt,23,[.int .i64 kind,z12 u])::(xs++T)):=y31 (xs:=[_]) (ys:=[_]) Mx.swap M1
 suffices hK:Wp (world n (D+1) 37 [.ptr pc 0,.ptr pt 0,.ptr nd 0] h) fun r h'=>r=.ret (.tup [])∧Mem S h0 h' (z1d4 pc rd sp nd pt p u kind c++(xs++T)) by
  obtain⟨_,h',e,rfl,M'⟩:=hK;exact⟨c,T,h',p,e,kt,M'⟩
 rw[z1bc];unfold z9d
 repeat(first|(with_reducible apply Wp.obind;first|exact z5 _ _|exact ze _ _ _)|((with_reducible apply y28 Mx);rfl)|((with_reducible apply Wp.ld4 Mx);rfl)|(with_reducible first|(apply Wp.obind;exact z13 _)|(apply Wp.callK;assumption)))
 refine y49 M2 kt.len hz kt.one fun h2 M3=>?_;exact Wp.ret ⟨rfl,M3.swap⟩
theorem t1_bad{pc rd sp nd pt:Nat}{kind:Int}{z:List AV}(hs:∀(h:AHeap),Rd h rd u 0→rd<h.next→z7a z17 h.ex=false→StepT rd u h (world n D 38 [.ptr rd 0,.int .i64 kind] h) (.error q))(M:Mem S h0 h (z1d4 pc rd sp nd pt 0 u kind z++xs))(hx:z7a z17 h0.ex=false):
  ∃h' p,world n (D+1) 37 [.ptr pc 0,.ptr pt 0,.ptr nd 0] h=some (.panic (z28d 6 q),h')∧Mem S h0 h' (z1d4 pc rd sp nd pt p u kind z++xs):=by
 have Mx:Mem S h0 h ((pc,TPtr,[.ptr rd 0])::(rd,TRd,rdP u 0)::(sp,z312,[.int .i64 0,.int .i64 0])::(nd,z17,z)::(pt,23,[.int .i64 kind,z12 u])::xs):=M;obtain⟨h1,p,e1,k1,t1⟩:=hs h Mx.at1.1 Mx.at1.2.1 (by rw[Mx.ex];exact hx)
 suffices hK:Wp (world n (D+1) 37 [.ptr pc 0,.ptr pt 0,.ptr nd 0] h) fun r h'=>r=.panic (z28d 6 q)∧Mem S h0 h' (z1d4 pc rd sp nd pt p u kind z++xs) by
  obtain⟨_,h',e,rfl,M'⟩:=hK;exact⟨h',p,e,M'⟩
 rw[z1bc];unfold z9d
 repeat(first|(with_reducible apply Wp.obind;first|exact z5 _ _|exact ze _ _ _)|((with_reducible apply y28 Mx);rfl)|((with_reducible apply Wp.ld4 Mx);rfl))
 exact y1f e1 ⟨rfl,y1b (xs:=[_]) Mx t1 k1⟩
theorem z458:∀(l:List AV) (x:AV) (N:Nat),y1e N (l++[x])=true→AV.lo N x=true
 |[],x,N,h=>by
  have:(AV.lo N x&&y1e N [])=true:=h
  simpa [y1e] using this
 |y::l,x,N,h=>by
  have:(AV.lo N y&&y1e N (l++[x]))=true:=h;rw[Bool.and_eq_true] at this;exact z458 l x N this.2
theorem NodeT.low{N:Nat}(k:NodeT t c T)(hn:∀y∈T,N≤y.1)(hl:y1e N c=true):T=[]:=by
 cases k with
 |mk hw g ks=>
  rename_i op w kids kc kv T0 T1;have h2:=z458 (.int .i64 (op:Int)::z1c w) kv N hl
  rcases g.2 with⟨rfl,rfl,rfl⟩|⟨_,q,rfl,rfl⟩
  ·cases ks
   rfl
  ·have h3 := hn (q, z17, kc.flatten) (by simp)
   have h4:q<N:=Nat.le_of_ble_eq_true h2;exact absurd h3 (by show ¬N≤q;omega)
end
section
variable {n D d b p q i m:Nat}{h h0:AHeap}{u:z11}{Q:ARes→AHeap→Prop}{S:List Nat}{xs rs rs' T T0 T1:List z9e}{w:List Nat}{x:R}{t:Nd}{c:List AV}{v kv fv:AV}{l:List Nd}{kc:List (List AV)}
theorem z188{pc rd sp nd pt:Nat}{kind:Int}{z:List AV}(hs:∀(h:AHeap),Rd h rd u 0→rd<h.next→z7a z17 h.ex=false→StepT rd u h (world n D 38 [.ptr rd 0,.int .i64 kind] h) (.error q))(M:Mem S h0 h (z1d4 pc rd sp nd pt 0 u kind z++xs))(hx:z7a z17 h0.ex=false):
  ∃h',world n (D+2) 36 [AV.fn 37 [] [.ptr pc 0,.ptr pt 0,.ptr nd 0]] h=some (.ret (.agg [.int .i64 6,.int .i64 (q:Int)]),h')∧∃p,Mem S h0 h' (z1d4 pc rd sp nd pt p u kind z++xs):=by
 apply Wp.ex;rw[z1d2];unfold zb0;refine yc M fun h1 M1=>?_
 obtain⟨h2,p,e2,M2⟩:=t1_bad (n:=n) (D:=D) (xs:=xs++[(h.next,z312,[.int .i64 0,.int .i64 0])]) hs (M1.perm (by
  rw[←List.append_assoc];exact List.perm_append_comm (l₁:=z1d4 pc rd sp nd pt 0 u kind z++xs) (l₂:=[_]))) hx
 have M3:Mem S h0 h2 ((h.next,z312,[.int .i64 0,.int .i64 0])::(z1d4 pc rd sp nd pt p u kind z++xs)):=M2.perm (by
  rw[←List.append_assoc];exact List.perm_append_comm (l₁:=[_]) (l₂:=z1d4 pc rd sp nd pt p u kind z++xs))
 refine z389 ((dynT _ _ _ _ _).trans e2) ?_;rw[z8];obtain⟨h3,e3,M4⟩:=recov_pan (n:=n) (call:=world n (D+1)) rfl M3 6 q;refine Wp.callN e3 ?_;refine y14 M4 rfl ?_;exact Wp.ret ⟨rfl,p,M4.pop⟩
theorem z1a7{pc rd sp nd pt:Nat}{kind:Int}{z:List AV}(hz:z.length=6)(hs:∀(h:AHeap),Rd h rd u 0→rd<h.next→z7a z17 h.ex=false→StepT rd u h (world n D 38 [.ptr rd 0,.int .i64 kind] h) (.ok t))(M:Mem S h0 h (z1d4 pc rd sp nd pt 0 u kind z++xs))(hx:z7a z17 h0.ex=false):
  ∃c T h' p,world n (D+2) 36 [AV.fn 37 [] [.ptr pc 0,.ptr pt 0,.ptr nd 0]] h=some (.ret (.agg [.int .i64 0,.int .i64 0]),h')∧NodeT t c T∧Mem S h0 h' (z1d4 pc rd sp nd pt p u kind c++(xs++T)):=by
 suffices hK:Wp (world n (D+2) 36 [AV.fn 37 [] [.ptr pc 0,.ptr pt 0,.ptr nd 0]] h) fun r h'=>∃c T p,r=.ret (.agg [.int .i64 0,.int .i64 0])∧NodeT t c T∧Mem S h0 h' (z1d4 pc rd sp nd pt p u kind c++(xs++T)) by
  obtain⟨_,h',e,c,T,p,rfl,k1,k2⟩:=hK;exact⟨c,T,h',p,e,k1,k2⟩
 rw[z1d2];unfold zb0;refine yc M fun h1 M1=>?_;obtain⟨c,T,h2,p,e2,kt,M2⟩:=t1_ok (n:=n) (D:=D) (xs:=[(h.next,z312,[.int .i64 0,.int .i64 0])]++xs) hz hs (M1.perm (List.perm_append_comm_assoc (z1d4 pc rd sp nd pt 0 u kind z) [_] xs)) hx
 have M3:Mem S h0 h2 ((h.next,z312,[.int .i64 0,.int .i64 0])::(z1d4 pc rd sp nd pt p u kind c++(xs++T))):=M2.perm (by
  rw[List.append_assoc];exact List.perm_append_comm_assoc [_] (z1d4 pc rd sp nd pt p u kind c) (xs++T))
 refine z388 ((dynT _ _ _ _ _).trans e2) ?_;clear M1 M2;have Mx:=M3;clear M3;rw[z8]
 repeat(first|((with_reducible apply y14 Mx);rfl)|((with_reducible apply y11 Mx);rfl;rfl;(rfl);clear Mx;intro _ Mx)|(with_reducible apply Wp.callN;exact recov_nil))
 exact Wp.ret ⟨c,T,p,rfl,kt,Mx.pop⟩
theorem tree_kind{kind:Int}(hk:¬(kind=1∨kind=2∨kind=3)):world n (D+1) 24 [.agg [.int .i64 kind,z12 u]] h=some (.ret (.tup [.agg (z25 0 zeroW .nsl),.agg [.int .i64 2,.int .i64 0]]),h):=by
 apply Wp.eq;rw[z41];refine Wp.gc ?_
 suffices hK:Wp (z18 (world n D) n [.int .i64 kind,z12 u] h) fun r h'=>r=.ret (.tup [.agg (z25 0 zeroW .nsl),.agg [.int .i64 2,.int .i64 0]])∧Tch [] h h' from hK.mono fun r h' ⟨e,t⟩=>⟨t.above,by rw[e];rfl,e,rfl⟩
 unfold z18;have Mx:=Mem.nil [] h;have b3:((kind:Int) != 3)=true:=zab (by omega)
 repeat(first|(with_reducible apply Wp.obind;first|exact z5 _ _|exact ze _ _ _)|((with_reducible apply y14 Mx);rfl)|((with_reducible apply y11 Mx);rfl;rfl;(rfl);clear Mx;intro _ Mx)|((with_reducible apply y1a Mx);rfl)|((with_reducible apply y1c Mx);rfl;rfl;(rfl);clear Mx;intro _ Mx)|((with_reducible apply y1d Mx);rfl)|((with_reducible apply yc Mx);clear Mx;intro _ Mx)|((with_reducible apply y16 Mx);(rfl);clear Mx;intro _ Mx)|(with_reducible first|refine y5 (fun _ _=>?_)|refine Wp.lett ?_)|((with_reducible refine y8 ?_ ?_);first|(with_reducible assumption)|((with_reducible apply zab);omega))|(with_reducible refine yd (by assumption) ?_)|rw[z8])
 exact Wp.ret ⟨rfl,Mx.tch⟩
theorem z314(hu:u.length≤1000000){kind:Int}(hk:kind=1∨kind=2∨kind=3):(64<u.length→∀{n D:Nat} {h:AHeap},0≤D→300<n→z7a z17 h.ex=false→world n (D+1) 24 [.agg [.int .i64 kind,z12 u]] h=some (.ret (.tup [.agg (z25 0 zeroW .nsl),.agg [.int .i64 3,.int .i64 64]]),h))∧
  (u.length ≤ 64 → ∃ r, TreeP u kind r ∧ (∀ q, r = .error q → q ≤ u.length) ∧ ∀ {n D : Nat} {h : AHeap}, 300 ≤ D → 400 < n → z7a z17 h.ex = false → match r with
   | .error q=>world n (D+3) 24 [.agg [.int .i64 kind,z12 u]] h=some (.ret (.tup [.agg (z25 0 zeroW .nsl),.agg [.int .i64 6,.int .i64 (q:Int)]]),h)
   | .ok t=>∃c T h',world n (D+3) 24 [.agg [.int .i64 kind,z12 u]] h=some (.ret (.tup [.agg c,.agg [.int .i64 0,.int .i64 0]]),h')∧NodeT t c T∧Mem [] h h' T):=by
 have hk':=hk
 rcases hk' with rfl|rfl|rfl
 ·-- kind 1
  refine⟨?_,?_⟩
  ·intro l n D h hD hn hx
   apply Wp.eq;rw[z41];refine Wp.gc ?_
   suffices hK:Wp (z18 (world n D) n [.int .i64 1,z12 u] h) fun r h'=>r=.ret (.tup [.agg (z25 0 zeroW .nsl),.agg [.int .i64 3,.int .i64 64]])∧Tch [] h h' from hK.mono fun r h' ⟨e,t⟩=>⟨t.above,by rw[e];rfl,e,rfl⟩
   unfold z18;have ll:=z1b u;have Mx:=Mem.nil [] h
   repeat(first|(with_reducible apply Wp.obind;first|exact z5 _ _|exact z34 _|exact ze _ _ _)|((with_reducible apply y14 Mx);rfl)|((with_reducible apply y11 Mx);rfl;rfl;(rfl);clear Mx;intro _ Mx)|((with_reducible apply y1a Mx);rfl)|((with_reducible apply y1c Mx);rfl;rfl;(rfl);clear Mx;intro _ Mx)|((with_reducible apply y1d Mx);rfl)|((with_reducible apply yc Mx);clear Mx;intro _ Mx)|((with_reducible apply y16 Mx);(rfl);clear Mx;intro _ Mx)|(with_reducible first|refine y5 (fun _ _=>?_)|refine Wp.lett ?_)|((with_reducible refine y8 ?_ ?_);((with_reducible first|apply decide_eq_true|apply zab);omega))|((with_reducible refine y7 ?_ ?_);first|(with_reducible rfl)|((with_reducible apply zc9);omega))|(with_reducible refine yd (by assumption) ?_)|rw[z8])
   exact Wp.ret ⟨rfl,Mx.tch⟩
  ·intro l
   obtain⟨r,r1,r2,r3⟩:=tree_r hu 1 hk;refine⟨r,r1,r2,?_⟩;intro n D h hD hn hx;have hs:∀(rd:Nat) (h:AHeap),Rd h rd u 0→rd<h.next→z7a z17 h.ex=false→StepT rd u h (world n D 38 [.ptr rd 0,.int .i64 1] h) r:=fun rd h k1 k2 k3=>r3 (by omega) (by omega) (by omega) k1 k2 k3
   cases r with
   |error q=>
    apply Wp.eq;rw[z41];refine Wp.gc ?_
    suffices hK:Wp (z18 (world n (D+2)) n [.int .i64 1,z12 u] h) fun r h'=>r=.ret (.tup [.agg (z25 0 zeroW .nsl),.agg [.int .i64 6,.int .i64 (q:Int)]])∧Tch [] h h' from hK.mono fun r h' ⟨e,t⟩=>⟨t.above,by rw[e];rfl,e,rfl⟩
    unfold z18;have ll:=z1b u;have Mx:=Mem.nil [] h
    repeat(first|(with_reducible apply Wp.obind;first|exact z5 _ _|exact z34 _|exact ze _ _ _)|((with_reducible apply y11 Mx);rfl;rfl;(rfl);clear Mx;intro _ Mx)|((with_reducible apply y1d Mx);rfl)|((with_reducible apply yc Mx);clear Mx;intro _ Mx)|((with_reducible apply y16 Mx);(rfl);clear Mx;intro _ Mx)|(with_reducible first|refine y5 (fun _ _=>?_)|refine Wp.lett ?_)|((with_reducible refine y7 ?_ ?_);first|(with_reducible rfl)|((with_reducible first|apply decide_eq_false|apply zc9);omega))|(with_reducible refine yd (by assumption) ?_)|rw[z8])
    obtain⟨h2,e2,p2,M2⟩:=z188 (n:=n) (D:=D) (xs:=[]) (hs _) (by rw[List.append_nil];exact Mx) hx;refine Wp.callN e2 ?_;clear Mx;have Mx:=M2
    repeat(first|(with_reducible apply Wp.obind;exact z5 _ _)|((with_reducible apply y1d Mx);rfl)|((with_reducible apply y2e Mx);rfl)|((with_reducible apply y29 Mx);rfl;rfl;(rfl);clear Mx;intro _ Mx)|((with_reducible apply y3e Mx);rfl)|((with_reducible apply y49 Mx);rfl;rfl;(rfl);clear Mx;intro _ Mx)|((with_reducible refine Wp.chk ?_ ?_);focus ((repeat' (first|(with_reducible exact rfl)|(with_reducible apply z1a4)|((with_reducible apply y4d Mx);kernel_rfl;kernel_rfl)));done))|(with_reducible first|refine Wp.lett ?_|(apply Wp.obind;exact z13 _))|((with_reducible refine y8 ?_ ?_;apply zab);omega))
    exact Wp.ret ⟨rfl,Mx.tch⟩
   |ok t=>
    obtain⟨c,T,h',e,kt,M'⟩:∃c T h',z18 (world n (D+2)) n [.int .i64 1,z12 u] h=some (.ret (.tup [.agg c,.agg [.int .i64 0,.int .i64 0]]),h')∧NodeT t c T∧Mem [] h h' T:=by
     suffices hK:Wp (z18 (world n (D+2)) n [.int .i64 1,z12 u] h) fun r h'=>∃c T,r=.ret (.tup [.agg c,.agg [.int .i64 0,.int .i64 0]])∧NodeT t c T∧Mem [] h h' T by
      obtain⟨_,h',e,c,T,rfl,k1,k2⟩:=hK;exact⟨c,T,h',e,k1,k2⟩
     unfold z18;have ll:=z1b u;have Mx:=Mem.nil [] h
     repeat(first|(with_reducible apply Wp.obind;first|exact z5 _ _|exact z34 _|exact ze _ _ _)|((with_reducible apply y11 Mx);rfl;rfl;(rfl);clear Mx;intro _ Mx)|((with_reducible apply y1d Mx);rfl)|((with_reducible apply yc Mx);clear Mx;intro _ Mx)|((with_reducible apply y16 Mx);(rfl);clear Mx;intro _ Mx)|(with_reducible first|refine y5 (fun _ _=>?_)|refine Wp.lett ?_)|((with_reducible refine y7 ?_ ?_);first|(with_reducible rfl)|((with_reducible first|apply decide_eq_false|apply zc9);omega))|(with_reducible refine yd (by assumption) ?_)|rw[z8])
     obtain⟨c,T,h2,p2,e2,kt,M2⟩:=z1a7 (n:=n) (D:=D) (xs:=[]) rfl (hs _) (by rw[List.append_nil];exact Mx) hx;refine Wp.callN e2 ?_;clear Mx;have Mx:=M2;have hl:=kt.len;have ho:=kt.one
     repeat(first|(with_reducible apply Wp.obind;exact z5 _ _)|((with_reducible apply y1d Mx);rfl)|((with_reducible apply y29 Mx);rfl;rfl;(rfl);clear Mx;intro _ Mx)|(with_reducible first|refine Wp.lett ?_|(apply Wp.obind;exact z13 _))|((with_reducible refine y7 ?_ ?_;apply zc9);omega))
     refine y3e Mx hl ?_
     repeat(((with_reducible apply y2e Mx);rfl))
     refine y49 Mx hl hl ho fun _ Mz=>?_;clear Mx;have Mx:=Mz;clear Mz
     repeat(first|((with_reducible apply y29 Mx);rfl;rfl;(rfl);clear Mx;intro _ Mx)|((with_reducible refine Wp.chk ?_ ?_);focus ((repeat' (first|(with_reducible exact rfl)|(with_reducible apply z1a4)|((with_reducible apply y4d Mx);kernel_rfl;kernel_rfl)));done)))
     refine y3e Mx hl ?_
     repeat(((with_reducible apply y2e Mx);rfl))
     exact Wp.ret ⟨c,T,rfl,kt,Mx.pop.pop.pop.pop.pop⟩
    have M2:=M'
    suffices hK:Wp (gcR h (z18 (world n (D+2)) n [.int .i64 1,z12 u] h)) fun r h'=>∃T,r=.ret (.tup [.agg c,.agg [.int .i64 0,.int .i64 0]])∧NodeT t c T∧Mem [] h h' T by
     obtain⟨_,h',e,T,rfl,k1,k2⟩:=hK;rw[←z41] at e;exact⟨c,T,h',e,k1,k2⟩
    refine y4a ⟨_,h',e,⟨T,rfl,kt,M'⟩,fun _ hl=>?_⟩
    have h1:y1e h.next c=true:=by
     have:(y1e h.next c&&(y1e h.next [.int .i64 0,.int .i64 0]&&y1e h.next []))=true:=hl;rw[Bool.and_eq_true] at this;exact this.1
    have hT:T=[]:=kt.low (fun y hy=>(M'.row y hy).2.2.resolve_left (by simp)) h1;subst hT;exact⟨[],rfl,kt,Mem.nil _ _⟩
 ·-- kind 2
  refine⟨?_,?_⟩
  ·intro l n D h hD hn hx
   apply Wp.eq;rw[z41];refine Wp.gc ?_
   suffices hK:Wp (z18 (world n D) n [.int .i64 2,z12 u] h) fun r h'=>r=.ret (.tup [.agg (z25 0 zeroW .nsl),.agg [.int .i64 3,.int .i64 64]])∧Tch [] h h' from hK.mono fun r h' ⟨e,t⟩=>⟨t.above,by rw[e];rfl,e,rfl⟩
   unfold z18;have ll:=z1b u;have Mx:=Mem.nil [] h
   repeat(first|(with_reducible apply Wp.obind;first|exact z5 _ _|exact z34 _|exact ze _ _ _)|((with_reducible apply y14 Mx);rfl)|((with_reducible apply y11 Mx);rfl;rfl;(rfl);clear Mx;intro _ Mx)|((with_reducible apply y1a Mx);rfl)|((with_reducible apply y1c Mx);rfl;rfl;(rfl);clear Mx;intro _ Mx)|((with_reducible apply y1d Mx);rfl)|((with_reducible apply yc Mx);clear Mx;intro _ Mx)|((with_reducible apply y16 Mx);(rfl);clear Mx;intro _ Mx)|(with_reducible first|refine y5 (fun _ _=>?_)|refine Wp.lett ?_)|((with_reducible refine y8 ?_ ?_);((with_reducible first|apply decide_eq_true|apply zab);omega))|((with_reducible refine y7 ?_ ?_);first|(with_reducible rfl)|((with_reducible apply zc9);omega))|(with_reducible refine yd (by assumption) ?_)|rw[z8])
   exact Wp.ret ⟨rfl,Mx.tch⟩
  ·intro l
   obtain⟨r,r1,r2,r3⟩:=tree_r hu 2 hk;refine⟨r,r1,r2,?_⟩;intro n D h hD hn hx;have hs:∀(rd:Nat) (h:AHeap),Rd h rd u 0→rd<h.next→z7a z17 h.ex=false→StepT rd u h (world n D 38 [.ptr rd 0,.int .i64 2] h) r:=fun rd h k1 k2 k3=>r3 (by omega) (by omega) (by omega) k1 k2 k3
   cases r with
   |error q=>
    apply Wp.eq;rw[z41];refine Wp.gc ?_
    suffices hK:Wp (z18 (world n (D+2)) n [.int .i64 2,z12 u] h) fun r h'=>r=.ret (.tup [.agg (z25 0 zeroW .nsl),.agg [.int .i64 6,.int .i64 (q:Int)]])∧Tch [] h h' from hK.mono fun r h' ⟨e,t⟩=>⟨t.above,by rw[e];rfl,e,rfl⟩
    unfold z18;have ll:=z1b u;have Mx:=Mem.nil [] h
    repeat(first|(with_reducible apply Wp.obind;first|exact z5 _ _|exact z34 _|exact ze _ _ _)|((with_reducible apply y11 Mx);rfl;rfl;(rfl);clear Mx;intro _ Mx)|((with_reducible apply y1d Mx);rfl)|((with_reducible apply yc Mx);clear Mx;intro _ Mx)|((with_reducible apply y16 Mx);(rfl);clear Mx;intro _ Mx)|(with_reducible first|refine y5 (fun _ _=>?_)|refine Wp.lett ?_)|((with_reducible refine y8 ?_ ?_);((with_reducible first|apply decide_eq_true|apply zab);omega))|((with_reducible refine y7 ?_ ?_);first|(with_reducible rfl)|((with_reducible first|apply decide_eq_false|apply zc9);omega))|(with_reducible refine yd (by assumption) ?_)|rw[z8])
    obtain⟨h2,e2,p2,M2⟩:=z188 (n:=n) (D:=D) (xs:=[]) (hs _) (by rw[List.append_nil];exact Mx) hx;refine Wp.callN e2 ?_;clear Mx;have Mx:=M2
    repeat(first|(with_reducible apply Wp.obind;exact z5 _ _)|((with_reducible apply y1d Mx);rfl)|((with_reducible apply y2e Mx);rfl)|((with_reducible apply y29 Mx);rfl;rfl;(rfl);clear Mx;intro _ Mx)|((with_reducible apply y3e Mx);rfl)|((with_reducible apply y49 Mx);rfl;rfl;(rfl);clear Mx;intro _ Mx)|((with_reducible refine Wp.chk ?_ ?_);focus ((repeat' (first|(with_reducible exact rfl)|(with_reducible apply z1a4)|((with_reducible apply y4d Mx);kernel_rfl;kernel_rfl)));done))|(with_reducible first|refine Wp.lett ?_|(apply Wp.obind;exact z13 _))|((with_reducible refine y8 ?_ ?_;apply zab);omega))
    exact Wp.ret ⟨rfl,Mx.tch⟩
   |ok t=>
    obtain⟨c,T,h',e,kt,M'⟩:∃c T h',z18 (world n (D+2)) n [.int .i64 2,z12 u] h=some (.ret (.tup [.agg c,.agg [.int .i64 0,.int .i64 0]]),h')∧NodeT t c T∧Mem [] h h' T:=by
     suffices hK:Wp (z18 (world n (D+2)) n [.int .i64 2,z12 u] h) fun r h'=>∃c T,r=.ret (.tup [.agg c,.agg [.int .i64 0,.int .i64 0]])∧NodeT t c T∧Mem [] h h' T by
      obtain⟨_,h',e,c,T,rfl,k1,k2⟩:=hK;exact⟨c,T,h',e,k1,k2⟩
     unfold z18;have ll:=z1b u;have Mx:=Mem.nil [] h
     repeat(first|(with_reducible apply Wp.obind;first|exact z5 _ _|exact z34 _|exact ze _ _ _)|((with_reducible apply y11 Mx);rfl;rfl;(rfl);clear Mx;intro _ Mx)|((with_reducible apply y1d Mx);rfl)|((with_reducible apply yc Mx);clear Mx;intro _ Mx)|((with_reducible apply y16 Mx);(rfl);clear Mx;intro _ Mx)|(with_reducible first|refine y5 (fun _ _=>?_)|refine Wp.lett ?_)|((with_reducible refine y8 ?_ ?_);((with_reducible first|apply decide_eq_true|apply zab);omega))|((with_reducible refine y7 ?_ ?_);first|(with_reducible rfl)|((with_reducible first|apply decide_eq_false|apply zc9);omega))|(with_reducible refine yd (by assumption) ?_)|rw[z8])
     obtain⟨c,T,h2,p2,e2,kt,M2⟩:=z1a7 (n:=n) (D:=D) (xs:=[]) rfl (hs _) (by rw[List.append_nil];exact Mx) hx;refine Wp.callN e2 ?_;clear Mx;have Mx:=M2;have hl:=kt.len;have ho:=kt.one
     repeat(first|(with_reducible apply Wp.obind;exact z5 _ _)|((with_reducible apply y1d Mx);rfl)|((with_reducible apply y29 Mx);rfl;rfl;(rfl);clear Mx;intro _ Mx)|(with_reducible first|refine Wp.lett ?_|(apply Wp.obind;exact z13 _))|((with_reducible refine y7 ?_ ?_;apply zc9);omega))
     refine y3e Mx hl ?_
     repeat(((with_reducible apply y2e Mx);rfl))
     refine y49 Mx hl hl ho fun _ Mz=>?_;clear Mx;have Mx:=Mz;clear Mz
     repeat(first|((with_reducible apply y29 Mx);rfl;rfl;(rfl);clear Mx;intro _ Mx)|((with_reducible refine Wp.chk ?_ ?_);focus ((repeat' (first|(with_reducible exact rfl)|(with_reducible apply z1a4)|((with_reducible apply y4d Mx);kernel_rfl;kernel_rfl)));done)))
     refine y3e Mx hl ?_
     repeat(((with_reducible apply y2e Mx);rfl))
     exact Wp.ret ⟨c,T,rfl,kt,Mx.pop.pop.pop.pop.pop⟩
    have M2:=M'
    suffices hK:Wp (gcR h (z18 (world n (D+2)) n [.int .i64 2,z12 u] h)) fun r h'=>∃T,r=.ret (.tup [.agg c,.agg [.int .i64 0,.int .i64 0]])∧NodeT t c T∧Mem [] h h' T by
     obtain⟨_,h',e,T,rfl,k1,k2⟩:=hK;rw[←z41] at e;exact⟨c,T,h',e,k1,k2⟩
    refine y4a ⟨_,h',e,⟨T,rfl,kt,M'⟩,fun _ hl=>?_⟩
    have h1:y1e h.next c=true:=by
     have:(y1e h.next c&&(y1e h.next [.int .i64 0,.int .i64 0]&&y1e h.next []))=true:=hl;rw[Bool.and_eq_true] at this;exact this.1
    have hT:T=[]:=kt.low (fun y hy=>(M'.row y hy).2.2.resolve_left (by simp)) h1;subst hT;exact⟨[],rfl,kt,Mem.nil _ _⟩
 ·-- kind 3
  refine⟨?_,?_⟩
  ·intro l n D h hD hn hx
   apply Wp.eq;rw[z41];refine Wp.gc ?_
   suffices hK:Wp (z18 (world n D) n [.int .i64 3,z12 u] h) fun r h'=>r=.ret (.tup [.agg (z25 0 zeroW .nsl),.agg [.int .i64 3,.int .i64 64]])∧Tch [] h h' from hK.mono fun r h' ⟨e,t⟩=>⟨t.above,by rw[e];rfl,e,rfl⟩
   unfold z18;have ll:=z1b u;have Mx:=Mem.nil [] h
   repeat(first|(with_reducible apply Wp.obind;first|exact z5 _ _|exact z34 _|exact ze _ _ _)|((with_reducible apply y14 Mx);rfl)|((with_reducible apply y11 Mx);rfl;rfl;(rfl);clear Mx;intro _ Mx)|((with_reducible apply y1a Mx);rfl)|((with_reducible apply y1c Mx);rfl;rfl;(rfl);clear Mx;intro _ Mx)|((with_reducible apply y1d Mx);rfl)|((with_reducible apply yc Mx);clear Mx;intro _ Mx)|((with_reducible apply y16 Mx);(rfl);clear Mx;intro _ Mx)|(with_reducible first|refine y5 (fun _ _=>?_)|refine Wp.lett ?_)|((with_reducible refine y8 ?_ ?_);((with_reducible first|apply decide_eq_true|apply zab);omega))|((with_reducible refine y7 ?_ ?_;apply zc9);omega)|(with_reducible refine yd (by assumption) ?_)|rw[z8])
   exact Wp.ret ⟨rfl,Mx.tch⟩
  ·intro l
   obtain⟨r,r1,r2,r3⟩:=tree_r hu 3 hk;refine⟨r,r1,r2,?_⟩;intro n D h hD hn hx;have hs:∀(rd:Nat) (h:AHeap),Rd h rd u 0→rd<h.next→z7a z17 h.ex=false→StepT rd u h (world n D 38 [.ptr rd 0,.int .i64 3] h) r:=fun rd h k1 k2 k3=>r3 (by omega) (by omega) (by omega) k1 k2 k3
   cases r with
   |error q=>
    apply Wp.eq;rw[z41];refine Wp.gc ?_
    suffices hK:Wp (z18 (world n (D+2)) n [.int .i64 3,z12 u] h) fun r h'=>r=.ret (.tup [.agg (z25 0 zeroW .nsl),.agg [.int .i64 6,.int .i64 (q:Int)]])∧Tch [] h h' from hK.mono fun r h' ⟨e,t⟩=>⟨t.above,by rw[e];rfl,e,rfl⟩
    unfold z18;have ll:=z1b u;have Mx:=Mem.nil [] h
    repeat(first|(with_reducible apply Wp.obind;first|exact z5 _ _|exact z34 _|exact ze _ _ _)|((with_reducible apply y11 Mx);rfl;rfl;(rfl);clear Mx;intro _ Mx)|((with_reducible apply y1d Mx);rfl)|((with_reducible apply yc Mx);clear Mx;intro _ Mx)|((with_reducible apply y16 Mx);(rfl);clear Mx;intro _ Mx)|(with_reducible first|refine y5 (fun _ _=>?_)|refine Wp.lett ?_)|((with_reducible refine y8 ?_ ?_);((with_reducible first|apply decide_eq_true|apply zab);omega))|((with_reducible refine y7 ?_ ?_);((with_reducible first|apply decide_eq_false|apply zc9);omega))|(with_reducible refine yd (by assumption) ?_)|rw[z8])
    obtain⟨h2,e2,p2,M2⟩:=z188 (n:=n) (D:=D) (xs:=[]) (hs _) (by rw[List.append_nil];exact Mx) hx;refine Wp.callN e2 ?_;clear Mx;have Mx:=M2
    repeat(first|(with_reducible apply Wp.obind;exact z5 _ _)|((with_reducible apply y1d Mx);rfl)|((with_reducible apply y2e Mx);rfl)|((with_reducible apply y29 Mx);rfl;rfl;(rfl);clear Mx;intro _ Mx)|((with_reducible apply y3e Mx);rfl)|((with_reducible apply y49 Mx);rfl;rfl;(rfl);clear Mx;intro _ Mx)|((with_reducible refine Wp.chk ?_ ?_);focus ((repeat' (first|(with_reducible exact rfl)|(with_reducible apply z1a4)|((with_reducible apply y4d Mx);kernel_rfl;kernel_rfl)));done))|(with_reducible first|refine Wp.lett ?_|(apply Wp.obind;exact z13 _))|((with_reducible refine y8 ?_ ?_;apply zab);omega))
    exact Wp.ret ⟨rfl,Mx.tch⟩
   |ok t=>
    obtain⟨c,T,h',e,kt,M'⟩:∃c T h',z18 (world n (D+2)) n [.int .i64 3,z12 u] h=some (.ret (.tup [.agg c,.agg [.int .i64 0,.int .i64 0]]),h')∧NodeT t c T∧Mem [] h h' T:=by
     suffices hK:Wp (z18 (world n (D+2)) n [.int .i64 3,z12 u] h) fun r h'=>∃c T,r=.ret (.tup [.agg c,.agg [.int .i64 0,.int .i64 0]])∧NodeT t c T∧Mem [] h h' T by
      obtain⟨_,h',e,c,T,rfl,k1,k2⟩:=hK;exact⟨c,T,h',e,k1,k2⟩
     unfold z18;have ll:=z1b u;have Mx:=Mem.nil [] h
     repeat(first|(with_reducible apply Wp.obind;first|exact z5 _ _|exact z34 _|exact ze _ _ _)|((with_reducible apply y11 Mx);rfl;rfl;(rfl);clear Mx;intro _ Mx)|((with_reducible apply y1d Mx);rfl)|((with_reducible apply yc Mx);clear Mx;intro _ Mx)|((with_reducible apply y16 Mx);(rfl);clear Mx;intro _ Mx)|(with_reducible first|refine y5 (fun _ _=>?_)|refine Wp.lett ?_)|((with_reducible refine y8 ?_ ?_);((with_reducible first|apply decide_eq_true|apply zab);omega))|((with_reducible refine y7 ?_ ?_);((with_reducible first|apply decide_eq_false|apply zc9);omega))|(with_reducible refine yd (by assumption) ?_)|rw[z8])
     obtain⟨c,T,h2,p2,e2,kt,M2⟩:=z1a7 (n:=n) (D:=D) (xs:=[]) rfl (hs _) (by rw[List.append_nil];exact Mx) hx;refine Wp.callN e2 ?_;clear Mx;have Mx:=M2;have hl:=kt.len;have ho:=kt.one
     repeat(first|(with_reducible apply Wp.obind;exact z5 _ _)|((with_reducible apply y1d Mx);rfl)|((with_reducible apply y29 Mx);rfl;rfl;(rfl);clear Mx;intro _ Mx)|(with_reducible first|refine Wp.lett ?_|(apply Wp.obind;exact z13 _))|((with_reducible refine y7 ?_ ?_;apply zc9);omega))
     refine y3e Mx hl ?_
     repeat(((with_reducible apply y2e Mx);rfl))
     refine y49 Mx hl hl ho fun _ Mz=>?_;clear Mx;have Mx:=Mz;clear Mz
     repeat(first|((with_reducible apply y29 Mx);rfl;rfl;(rfl);clear Mx;intro _ Mx)|((with_reducible refine Wp.chk ?_ ?_);focus ((repeat' (first|(with_reducible exact rfl)|(with_reducible apply z1a4)|((with_reducible apply y4d Mx);kernel_rfl;kernel_rfl)));done)))
     refine y3e Mx hl ?_
     repeat(((with_reducible apply y2e Mx);rfl))
     exact Wp.ret ⟨c,T,rfl,kt,Mx.pop.pop.pop.pop.pop⟩
    have M2:=M'
    suffices hK:Wp (gcR h (z18 (world n (D+2)) n [.int .i64 3,z12 u] h)) fun r h'=>∃T,r=.ret (.tup [.agg c,.agg [.int .i64 0,.int .i64 0]])∧NodeT t c T∧Mem [] h h' T by
     obtain⟨_,h',e,T,rfl,k1,k2⟩:=hK;rw[←z41] at e;exact⟨c,T,h',e,k1,k2⟩
    refine y4a ⟨_,h',e,⟨T,rfl,kt,M'⟩,fun _ hl=>?_⟩
    have h1:y1e h.next c=true:=by
     have:(y1e h.next c&&(y1e h.next [.int .i64 0,.int .i64 0]&&y1e h.next []))=true:=hl;rw[Bool.and_eq_true] at this;exact this.1
    have hT:T=[]:=kt.low (fun y hy=>(M'.row y hy).2.2.resolve_left (by simp)) h1;subst hT;exact⟨[],rfl,kt,Mem.nil _ _⟩
end
open Go.RowKit Abs
theorem zaa{a b:Nat}(ha:a<18446744073709551616):a&&&b<18446744073709551616:=Nat.lt_of_le_of_lt Nat.and_le_left ha
theorem zfa{x y:Nat}(hx:x<18446744073709551616)(hy:y<18446744073709551616):z393 .u64 (x:Int) (y:Int)=((x&&&y:Nat):Int):=by
 have e:(BitVec.ofInt 64 (x:Int)&&&BitVec.ofInt 64 (y:Int)).toNat=x&&&y:=by
  rw[BitVec.toNat_and,BitVec.toNat_ofInt,BitVec.toNat_ofInt]
  congr 1<;>omega
 unfold z393;show IntKind.u64.wrap (((BitVec.ofInt 64 (x:Int)&&&BitVec.ofInt 64 (y:Int)).toNat:Nat):Int)=_;rw[e,z83];have:=zaa (b:=y) hx;omega
def lackN(x y:Nat):Nat:=x ^^^ (x&&&y)
theorem z24a(x y i:Nat):(lackN x y).testBit i=(x.testBit i&& !y.testBit i):=by
 unfold lackN;rw[Nat.testBit_xor,Nat.testBit_and]
 cases x.testBit i<;>cases y.testBit i<;>rfl
theorem z32b{x y:Nat}(hx:x<18446744073709551616):lackN x y<18446744073709551616:=by
 unfold lackN;have:=Nat.xor_lt_two_pow (n:=64) (x:=x) (y:=x&&&y) (by omega) (by have:=zaa (b:=y) hx;omega);omega
theorem z433{x y:Nat}(hx:x<18446744073709551616)(hy:y<18446744073709551616):z392 .u64 (x:Int) (y:Int)=((lackN x y:Nat):Int):=by
 have e:(BitVec.ofInt 64 (x:Int)&&& ~~~ BitVec.ofInt 64 (y:Int)).toNat=lackN x y:=by
  refine Nat.eq_of_testBit_eq fun i=>?_;rw[BitVec.toNat_and,Nat.testBit_and,z24a];have e1:(BitVec.ofInt 64 (x:Int)).toNat=x:=by rw[BitVec.toNat_ofInt];omega
  have e2:(BitVec.ofInt 64 (y:Int)).toNat=y:=by rw[BitVec.toNat_ofInt];omega
  rw[e1]
  by_cases hi:i<64
  ·congr 1
   rw[BitVec.testBit_toNat,BitVec.getLsbD_not, ←BitVec.testBit_toNat,e2]
   simp[hi]
  ·rw[Nat.testBit_lt_two_pow (x:=x) (Nat.lt_of_lt_of_le hx (by have:=Nat.pow_le_pow_right (n:=2) (by decide) (show 64≤i by omega);omega)),Bool.false_and,Bool.false_and]
 unfold z392;show IntKind.u64.wrap (((BitVec.ofInt 64 (x:Int)&&& ~~~ BitVec.ofInt 64 (y:Int)).toNat:Nat):Int)=_;rw[e,z83];have:=z32b (y:=y) hx;omega
theorem z34e{x k:Nat}(hk:k<64):shrI .u64 (x:Int) (k:Int)=some ((x>>>k:Nat):Int):=by
 unfold shrI;rw[if_neg (by omega)]
 have e:min ((k:Int).toNat) IntKind.u64.bits=k:=by
  show min ((k:Int).toNat) 64=k;omega
 rw[e,Int.fdiv_eq_ediv_of_nonneg _ (Int.le_of_lt (Int.pow_pos (by decide))),Nat.shiftRight_eq_div_pow]
 push_cast
 rfl
theorem z2b8{x k:Nat}(hx:x<18446744073709551616):x>>>k<18446744073709551616:=by
 rw[Nat.shiftRight_eq_div_pow];exact Nat.lt_of_le_of_lt (Nat.div_le_self _ _) hx
theorem z38e(x k:Nat):x>>>k&&&1=(x.testBit k).toNat:=by
 rw[Nat.and_one_is_mod,Nat.toNat_testBit,Nat.shiftRight_eq_div_pow]
theorem low_lt{m:Nat}(hm:m≠0):m&&&(m - 1)<m:=Nat.lt_of_le_of_lt Nat.and_le_right (by omega)
abbrev tzT:List Nat:=[0,1,56,2,57,49,28,3,61,58,42,50,38,29,17,4,62,47,59,36,45,43,51,22,53,39,33,30,24,18,12,5,63,55,48,27,60,41,37,16,46,35,44,21,52,32,23,11,54,26,40,15,34,20,31,10,25,14,19,9,13,8,7,6]
def tzC:List AV:=tzT.map fun (z:Nat)=>AV.int .u8 (z:Int)
def HasTz(h:AHeap):Prop:=h.get 0=some (.glob (T.put .e 0 tzC))∧0<h.next
theorem HasTz.tch{S:List Nat}{h h':AHeap}(k:HasTz h)(t:Tch S h h')(hS:0 ∉ S):HasTz h':=⟨by rw[t.2.2 _ k.2 hS];exact k.1,Nat.lt_of_lt_of_le k.2 t.1⟩
theorem tz_cell{h:AHeap}(k:HasTz h){t:Nat}{v:AV}(hv:tzC[t]? =some v):z9 h (.gptr 0 t)=some v:=by
 simp only[z9,k.1,z404,hv]
def tzI(m:Nat):Nat:=(m&&&(18446744073709551616 - m)%18446744073709551616)*285870213051353865%18446744073709551616/288230376151711744
theorem tzI_lt(m:Nat):tzI m<64:=by
 unfold tzI;have:=Nat.mod_lt ((m&&&(18446744073709551616 - m)%18446744073709551616)*285870213051353865) (show 0<18446744073709551616 by decide);omega
def tzN(m:Nat):Nat:=tzT.getD (tzI m) 0
theorem tz_all:(List.range 64).all (fun t=>Nat.blt (tzT.getD t 0) 64)=true:=by kernel_rfl
theorem tz_one{t:Nat}(ht:t<64):tzC[t]? =some (.int .u8 ((tzT.getD t 0:Nat):Int))∧tzT.getD t 0<64:=by
 have:=List.all_eq_true.1 tz_all t (List.mem_range.2 ht);have hl:t<tzT.length:=ht;refine⟨?_,by simpa using this⟩;unfold tzC;rw[List.getElem?_map,List.getD_eq_getElem?_getD,List.getElem?_eq_getElem hl];rfl
theorem tzN_lt(m:Nat):tzN m<64:=(tz_one (tzI_lt m)).2
section
variable {n d:Nat}{h:AHeap}
theorem idxA_g{n b o i:Nat}(h:i<n):z20b n 1 (.gptr b o) (i:Int)=some (.gptr b (o+i)):=by
 have e:Nat.blt i n=true:=by simpa using h
 show (match Nat.blt i n with|true=>some (AV.gptr b (o+i*1))|false=>none)=_;rw[e,Nat.mul_one]
theorem tz_w(hT:HasTz h){m:Nat}(hm:m<18446744073709551616)(h0:m≠0):world n (d+1) 51 [.int .u64 (m:Int)] h=some (.ret (.int .i64 (tzN m:Nat)),h):=by
 have:z3a (world n d) n (m:Int) h=some (.ret (.int .i64 (tzN m:Nat)),h):=by
  apply Wp.eq;unfold z3a
  have e1:IntKind.u64.wrap (0 - (m:Int))=(((18446744073709551616 - m)%18446744073709551616:Nat):Int):=by
   rw[z83];omega
  have e2:z393 .u64 (m:Int) (((18446744073709551616 - m)%18446744073709551616:Nat):Int)=((m&&&(18446744073709551616 - m)%18446744073709551616:Nat):Int):=zfa hm (Nat.mod_lt _ (by decide))
  have e3:IntKind.u64.wrap (((m&&&(18446744073709551616 - m)%18446744073709551616:Nat):Int)*285870213051353865)=(((m&&&(18446744073709551616 - m)%18446744073709551616)*285870213051353865%18446744073709551616:Nat):Int):=by
   rw[z83];rfl
  have e4:shrI .u64 (((m&&&(18446744073709551616 - m)%18446744073709551616)*285870213051353865%18446744073709551616:Nat):Int) 58=some ((tzI m:Nat):Int):=by
   rw[show (58:Int)=((58:Nat):Int) from rfl,z34e (by decide),Nat.shiftRight_eq_div_pow];rfl
  have e5:=idxA_g (b:=0) (o:=0) (tzI_lt m);obtain⟨e6,e7⟩:=tz_one (tzI_lt m);have e8:=tz_cell hT e6
  have e9:IntKind.i64.wrap ((tzN m:Nat):Int)=((tzN m:Nat):Int):=by
   have:=tzN_lt m;rw[z29c (by omega) (by omega)]
  ((with_reducible refine Wp.lett ?_))
  refine y7 (z2e (by omega)) ?_;refine Wp.lett ?_;rw[e1];refine Wp.lett ?_;rw[e2];refine Wp.lett ?_;rw[e3];refine Wp.obind e4 ?_;refine Wp.obind e5 ?_;rw[Nat.zero_add];refine Wp.obind e8 ?_;refine Wp.obind (z5 _ _) ?_;refine Wp.lett ?_;show Wp (some (ARes.ret (AV.int .i64 (IntKind.i64.wrap ((tzN m:Nat):Int))),h)) _;rw[e9];exact Wp.ret ⟨rfl,rfl⟩
 rw[z16a,this,z461 (Above.refl _) rfl]
end
abbrev TNet:Nat:=56
abbrev TBl:Nat:=58
abbrev TPc:Nat:=60
structure Nt where
 empty:Bool
 first:Nat
 last:Nat
 fo:List Nat
 ta:List Nat
structure NtOk (N:Nt):Prop where
 fl:N.fo.length=64
 tl:N.ta.length=256
 f:N.first<18446744073709551616
 l:N.last<18446744073709551616
 fs:∀x∈N.fo,x<18446744073709551616
 ts:∀x∈N.ta,x<18446744073709551616
noncomputable def netC(N:Nt):List AV:=.bool N.empty:: .int .u64 (N.first:Int):: .int .u64 (N.last:Int)::(z1c N.fo++z1c N.ta)
theorem zc3{l:List Nat}(h:∀x∈l,x<18446744073709551616)(i:Nat):l.getD i 0<18446744073709551616:=by
 rw[List.getD_eq_getElem?_getD];cases hx:l[i]? with
 |none=>decide
 |some x=>exact h x (List.mem_of_getElem? hx)
section
variable {N:Nt}
theorem z271(k:NtOk N):(netC N).length=323:=by
 simp only[netC,List.length_cons,List.length_append,z38,k.fl,k.tl]
theorem net_fo(k:NtOk N){i:Nat}(hi:i<64):(netC N)[3+i]? =some (.int .u64 (N.fo.getD i 0:Int)):=
 z148 (pre:=[.bool N.empty,.int .u64 (N.first:Int),.int .u64 (N.last:Int)]) (by rw[k.fl];exact hi)
theorem net_ta(k:NtOk N){i:Nat}(hi:i<256):(netC N)[67+i]? =some (.int .u64 (N.ta.getD i 0:Int)):=by
 have:=z148 (pre:=.bool N.empty:: .int .u64 (N.first:Int):: .int .u64 (N.last:Int)::z1c N.fo) (post:=[]) (w:=N.ta) (i:=i) (by rw[k.tl];exact hi);rw[List.append_nil,show (AV.bool N.empty:: .int .u64 (N.first:Int):: .int .u64 (N.last:Int)::z1c N.fo).length=67 by simp only[List.length_cons,z38,k.fl]] at this;exact this
theorem z4a0(k:NtOk N){i x:Nat}(hi:i<64):(netC N).set (3+i) (.int .u64 (x:Int))=netC {N with fo:=N.fo.set i x}:=
 z195 (pre:=[.bool N.empty,.int .u64 (N.first:Int),.int .u64 (N.last:Int)]) (by rw[k.fl];exact hi)
theorem z323(k:NtOk N){i x:Nat}(hi:i<256):(netC N).set (67+i) (.int .u64 (x:Int))=netC {N with ta:=N.ta.set i x}:=by
 have:=z195 (pre:=.bool N.empty:: .int .u64 (N.first:Int):: .int .u64 (N.last:Int)::z1c N.fo) (post:=[]) (w:=N.ta) (i:=i) (x:=x) (by rw[k.tl];exact hi);rw[List.append_nil,List.append_nil,show (AV.bool N.empty:: .int .u64 (N.first:Int):: .int .u64 (N.last:Int)::z1c N.fo).length=67 by simp only[List.length_cons,z38,k.fl]] at this;exact this
end
def z36f(g:Nat→Nat→Nat):Nat→List Nat→List Nat
 |_,[]=>[]
 |i,x::l=>g i x::z36f g (i+1) l
theorem z246(g:Nat→Nat→Nat):∀(l:List Nat) (i j:Nat),(z36f g i l)[j]? =(l[j]?).map (g (i+j))
 |[],_,_=>rfl
 |_::_,_,0=>rfl
 |_::l,i,j+1=>by
  show (z36f g (i+1) l)[j]? =_;rw[z246 g l (i+1) j,show i+1+j=i+(j+1) by omega];rfl
theorem z1fb(g:Nat→Nat→Nat):∀(l:List Nat) (i:Nat),(z36f g i l).length=l.length
 |[],_=>rfl
 |_::l,i=>by rw[z36f,List.length_cons,List.length_cons,z1fb g l (i+1)]
theorem z1fa{g:Nat→Nat→Nat}{l:List Nat}{i:Nat}(hl:∀x∈l,x<18446744073709551616)(hg:∀i x,x<18446744073709551616→g i x<18446744073709551616):∀x∈z36f g i l,x<18446744073709551616:=by
 intro x hx;obtain⟨j,hj⟩:=List.mem_iff_getElem?.1 hx;rw[z246] at hj;obtain⟨y,hy,rfl⟩:=Option.map_eq_some_iff.1 hj;exact hg _ _ (hl y (List.mem_of_getElem? hy))
def upd(g:Nat→Nat→Nat)(k:Nat)(l:List Nat):List Nat:=z36f (fun c x=>if c<k then g c x else x) 0 l
section
variable {g:Nat→Nat→Nat}{k:Nat}{l:List Nat}
theorem z215(j:Nat):(upd g k l)[j]? =(l[j]?).map fun x=>if j<k then g j x else x:=by
 unfold upd;rw[z246,Nat.zero_add]
theorem z348:(upd g k l).length=l.length:=z1fb _ _ _
theorem z347:upd g 0 l=l:=by
 refine List.ext_getElem? fun j=>?_;rw[z215]
 simp
theorem z34a(h:l.length=k):upd g k l=z36f g 0 l:=by
 refine List.ext_getElem? fun j=>?_;rw[z215,z246,Nat.zero_add];cases hx:l[j]? with
 |none=>rfl
 |some x=>
  have:j<l.length:=(List.getElem?_eq_some_iff.1 hx).1;rw[Option.map_some,Option.map_some,if_pos (by omega)]
theorem z349:(upd g k l).getD k 0=l.getD k 0:=by
 rw[List.getD_eq_getElem?_getD,List.getD_eq_getElem?_getD,z215]
 simp
theorem z3f8(h:k<l.length):(upd g k l).set k (g k (l.getD k 0))=upd g (k+1) l:=by
 refine List.ext_getElem? fun j=>?_;rw[List.getElem?_set,z215,z215,z348]
 by_cases hj:k=j
 ·subst hj
  rw[if_pos rfl,if_pos h,List.getElem?_eq_getElem h,Option.map_some,if_pos (by omega),List.getD_eq_getElem?_getD,List.getElem?_eq_getElem h];rfl
 ·rw [if_neg hj]
  congr 1
  funext x
  by_cases h2:j<k
  ·rw[if_pos h2,if_pos (by omega)]
  ·rw[if_neg h2,if_neg (by omega)]
theorem z43a(hg:g k (l.getD k 0)=l.getD k 0):upd g k l=upd g (k+1) l:=by
 refine List.ext_getElem? fun j=>?_;rw[z215,z215];cases hx:l[j]? with
 |none=>rfl
 |some x=>
  rw[Option.map_some,Option.map_some]
  by_cases hj:j=k
  ·subst hj
   rw[List.getD_eq_getElem?_getD,hx] at hg;rw[if_neg (by omega),if_pos (by omega)];exact congrArg some hg.symm
  ·by_cases h2 : j < k
   ·rw[if_pos h2,if_pos (by omega)]
   ·rw[if_neg h2,if_neg (by omega)]
theorem z2ae(hl:∀x∈l,x<18446744073709551616)(hg:∀i x,x<18446744073709551616→g i x<18446744073709551616):∀x∈upd g k l,x<18446744073709551616:=z1fa hl fun i x hx=>by
 show (if i<k then g i x else x)<18446744073709551616
 split
 ·exact hg i x hx
 ·exact hx
end
def folG(those these i x:Nat):Nat:=if those.testBit i=true then x|||these else x
theorem z32f{those these:Nat}(h:these<18446744073709551616)(i x:Nat)(hx:x<18446744073709551616):folG those these i x<18446744073709551616:=by
 unfold folG
 split
 ·exact zb1 hx h
 ·exact hx
def Nt.follow(N:Nt)(those these:Nat):Nt:={N with fo:=z36f (folG those these) 0 N.fo}
theorem NtOk.follow{N:Nt}(k:NtOk N){those these:Nat}(h:these<18446744073709551616):NtOk (N.follow those these):=
 ⟨by show (z36f _ _ _).length=_;rw[z1fb];exact k.fl,k.tl,k.f,k.l,z1fa k.fs fun i x hx=>z32f h i x hx,k.ts⟩
section
variable {N:Nt}{n d b nb these those:Nat}{v:AV}{h:AHeap}{Q:ARes→AHeap→Prop}
theorem z228{k3:AHeap→R}(hN:NtOk N)(hs:these<18446744073709551616)(ht:those<18446744073709551616)(hne:b≠nb):∀(m f i:Nat) (H:AHeap),m<f→i+m=64→RowH H b TBl [.ptr nb 0,v]→b<H.next→RowH H nb TNet (netC {N with fo:=upd (folG those these) i N.fo})→
  (∀H',RowH H' nb TNet (netC (N.follow those these))→Tch [nb] H H'→Wp (k3 H') Q)→Wp (z75 (.ptr b 0) (those:Int) (these:Int) k3 f (i:Int) H) Q
 |_,0,_,_,hf,_,_,_,_,_=>by omega
 |0,f+1,i,H,hf,hm,kb,hb,kn,hk=>by
  rw[zb2];unfold z69
  repeat(first|(with_reducible refine Wp.lett ?_)|((with_reducible refine y7 ?_ ?_;apply decide_eq_false);omega))
  refine hk H ?_ (Tch.refl _ _);have:i=64:=by omega
  subst this;rw[z34a hN.fl] at kn;exact kn
 |m+1,f+1,i,H,hf,hm,kb,hb,kn,hk=>by
  rw[zb2];unfold z69;have hi:i<64:=by omega
  have hN2:NtOk {N with fo:=upd (folG those these) i N.fo}:=⟨by show (upd _ _ _).length=_;rw[z348];exact hN.fl,hN.tl,hN.f,hN.l,z2ae hN.fs fun i x hx=>z32f hs i x hx,hN.ts⟩;have e1:=z34e (x:=those) hi
  have e2:z393 .u64 ((those>>>i:Nat):Int) 1=(((those.testBit i).toNat:Nat):Int):=by
   rw[show (1:Int)=((1:Nat):Int) from rfl,zfa (z2b8 ht) (by decide),z38e]
  have el:(i:Int)+1=((i+1:Nat):Int):=by omega
  repeat(first|(with_reducible first|refine y12 (fun _ _=>?_)|refine Wp.lett ?_|(apply Wp.obind;exact e1))|((with_reducible refine y8 ?_ ?_);((with_reducible first|apply decide_eq_true|apply z28);omega)))
  rw[e2];cases hbit:those.testBit i with
  |false=>
   refine y7 rfl ?_
   repeat(first|((with_reducible refine yf ?_ ?_ ?_);omega;omega)|(with_reducible refine y21 (by assumption) ?_))
   rw[el];refine z228 hN hs ht hne m f (i+1) H (by omega) (by omega) kb hb ?_ hk;rw[←z43a (g:=folG those these) (k:=i) (l:=N.fo) (by unfold folG;rw[hbit,if_neg Bool.false_ne_true])];exact kn
  |true=>
   have c1:z9 H (.ptr b (0+0))=some (.ptr nb 0):=y10 kb rfl;have e3:=zc7 (b:=nb) (o:=0+3) hi;have c2:z9 H (.ptr nb (0+3+i))=some (.int .u64 (N.fo.getD i 0:Int)):=y10 kn (by rw[Nat.zero_add,net_fo hN2 hi];show some (AV.int .u64 (((upd _ _ _).getD i 0:Nat):Int))=_;rw[z349]);refine y8 rfl ?_
   repeat(with_reducible first|refine Wp.lett ?_|(apply Wp.obind;first|exact c1|exact e3|exact c2|exact z5 _ _|exact z3e _ _|exact ze _ _ _))
   rw[z12f (zc3 hN.fs i) hs];refine Wp.st1 kn (by rw[z271 hN2];omega) rfl fun h' k' t' _=>?_;rw[Nat.zero_add,z4a0 hN2 hi] at k'
   repeat(first|((with_reducible refine yf ?_ ?_ ?_);omega;omega)|(with_reducible refine y21 (by assumption) ?_))
   rw[el];refine z228 hN hs ht hne m f (i+1) h' (by omega) (by omega) (kb.tch t' hb (by simpa using hne)) (Nat.lt_of_lt_of_le hb t'.1) ?_ fun H' k2 t2=>hk H' k2 (t'.trans t2);have hu:=z3f8 (g:=folG those these) (k:=i) (l:=N.fo) (by rw[hN.fl];exact hi);have hg:folG those these i (N.fo.getD i 0)=N.fo.getD i 0|||these:=by unfold folG;rw[hbit,if_pos rfl]
   rw[hg] at hu;rw[←hu];exact k'
theorem z379(hN:NtOk N)(hs:these<18446744073709551616)(ht:those<18446744073709551616)(hn:64<n)(hne:b≠nb)(kb:RowH h b TBl [.ptr nb 0,v])(hb:b<h.next)(kn:RowH h nb TNet (netC N)):∃h',world n (d+1) 41 [.ptr b 0,.int .u64 (those:Int),.int .u64 (these:Int)] h=some (.ret (.tup []),h')∧RowH h' nb TNet (netC (N.follow those these))∧Tch [nb] h h':=by
 apply Wp.ex;rw[z207];unfold z78
 ((with_reducible refine y12 (fun _ _=>?_)))
 rename_i k3 ek3;refine z228 hN hs ht hne 64 n 0 h (by omega) rfl kb hb (by rw[z347];exact kn) fun H' k2 t2=>?_
 repeat((with_reducible refine y21 (by assumption) ?_))
 exact Wp.ret ⟨rfl,k2,t2⟩
end
def inW(w:List Nat)(i:Nat):Bool:=(w.getD (i/64) 0).testBit (i%64)
def bitN(u:Nat):Nat:=if u<64 then 2 ^ u else 0
theorem z202(u:Nat):bitN u<18446744073709551616:=by
 unfold bitN
 split
 ·exact z146 (by assumption)
 ·decide
theorem shlI_bit{u:Nat}:shlI .u64 1 (u:Int)=some ((bitN u:Nat):Int):=by
 unfold bitN
 by_cases h:u<64
 ·rw [if_pos h]
  exact z1f5 h
 ·rw [if_neg h]
  unfold shlI;rw[if_neg (by omega)]
  have e:min ((u:Int).toNat) IntKind.u64.bits=64:=by
   show min ((u:Int).toNat) 64=64;omega
  rw[e,z83];rfl
def plG(w:List Nat)(bit i x:Nat):Nat:=if inW w i=true then x|||bit else x
theorem z3b8{w:List Nat}{bit:Nat}(h:bit<18446744073709551616)(i x:Nat)(hx:x<18446744073709551616):plG w bit i x<18446744073709551616:=by
 unfold plG
 split
 ·exact zb1 hx h
 ·exact hx
def Nt.place(N:Nt)(w:List Nat)(bit:Nat):Nt:={N with ta:=z36f (plG w bit) 0 N.ta}
theorem NtOk.place{N:Nt}(k:NtOk N){w:List Nat}{bit:Nat}(h:bit<18446744073709551616):NtOk (N.place w bit):=
 ⟨k.fl,by show (z36f _ _ _).length=_;rw[z1fb];exact k.tl,k.f,k.l,k.fs,z1fa k.ts fun i x hx=>z3b8 h i x hx⟩
structure Pc where
 empty:Bool
 first:Nat
 last:Nat
structure PcOk (p:Pc):Prop where
 f:p.first<18446744073709551616
 l:p.last<18446744073709551616
def pcC(p:Pc):List AV:=[.bool p.empty,.int .u64 (p.first:Int),.int .u64 (p.last:Int)]
def behN(p q:Pc):Pc:=⟨p.empty&&q.empty,if p.empty=true then p.first|||q.first else p.first,if q.empty=true then q.last|||p.last else q.last⟩
theorem z42e{p q:Pc}(a:PcOk p)(b:PcOk q):PcOk (behN p q):=by
 constructor
 ·show (if p.empty = true then _ else _) < _
  split
  ·exact zb1 a.f b.f
  ·exact a.f
 ·show (if q.empty = true then _ else _) < _
  split
  ·exact zb1 b.l a.l
  ·exact b.l
theorem y42{h:AHeap}{b c:Nat}{e f:TypeId}{l m:List AV}(k1:RowH h b e l)(h1:b<h.next)(k2:RowH h c f m)(h2:c<h.next)(hne:b≠c):Mem [b,c] h h [(b,e,l),(c,f,m)]:=
 ⟨by simpa using ⟨⟨k1,h1⟩,k2,h2⟩,by simpa using hne,Tch.refl _ _⟩
section
variable {N:Nt}{n d b nb used:Nat}{v:AV}{h:AHeap}{Q:ARes→AHeap→Prop}{w:List Nat}{p q:Pc}
theorem z269{k25:AHeap→R}{pb bit:Nat}{e:TypeId}(hN:NtOk N)(hw:WordsOk w)(hs:bit<18446744073709551616)(hne:b≠nb)(hnp:pb≠nb):∀(m f i:Nat) (H:AHeap),m<f→i+m=256→RowH H b TBl [.ptr nb 0,v]→b<H.next→RowH H pb e (z1c w)→pb<H.next→RowH H nb TNet (netC {N with ta:=upd (plG w bit) i N.ta})→
  (∀H',RowH H' nb TNet (netC (N.place w bit))→Tch [nb] H H'→Wp (k25 H') Q)→Wp (z7c (.ptr b 0) (.ptr pb 0) (bit:Int) k25 f (i:Int) H) Q
 |_,0,_,_,hf,_,_,_,_,_,_,_=>by omega
 |0,f+1,i,H,hf,hm,kb,hb,kp,hp,kn,hk=>by
  rw[zc4];unfold z74
  repeat(first|(with_reducible refine Wp.lett ?_)|((with_reducible refine y7 ?_ ?_;apply decide_eq_false);omega))
  refine hk H ?_ (Tch.refl _ _);have:i=256:=by omega
  subst this;rw[z34a hN.tl] at kn;exact kn
 |m+1,f+1,i,H,hf,hm,kb,hb,kp,hp,kn,hk=>by
  rw[zc4];unfold z74;have hi:i<256:=by omega
  have hi4:i/64<4:=by omega
  have hN2:NtOk {N with ta:=upd (plG w bit) i N.ta}:=⟨hN.fl,by show (upd _ _ _).length=_;rw[z348];exact hN.tl,hN.f,hN.l,hN.fs,z2ae hN.ts fun i x hx=>z3b8 hs i x hx⟩;have q1:=z361 (c:=i) (by omega);have q2:=zc7 (b:=pb) (o:=0) hi4;have q3:=z353 (c:=i);have g1:=z148 (pre:=[]) (post:=[]) (w:=w) (i:=i/64) (by rw[hw.len];exact hi4);rw[List.append_nil,List.nil_append,List.length_nil] at g1;have q4:z9 H (.ptr pb (0+i/64))=some (.int .u64 ((w.getD (i/64) 0:Nat):Int)):=y10 kp g1;have e1:=z34e (x:=w.getD (i/64) 0) (Nat.mod_lt i (show 0<64 by decide))
  have e2:z393 .u64 ((w.getD (i/64) 0>>>(i%64):Nat):Int) 1=(((inW w i).toNat:Nat):Int):=by
   rw[show (1:Int)=((1:Nat):Int) from rfl,zfa (z2b8 (hw.get _)) (by decide),z38e];rfl
  have el:(i:Int)+1=((i+1:Nat):Int):=by omega
  repeat(first|(with_reducible first|refine y12 (fun _ _=>?_)|refine Wp.lett ?_|(apply Wp.obind;first|exact q1|exact q2|exact q3|exact q4|exact e1|exact z5 _ _))|((with_reducible refine y8 ?_ ?_);((with_reducible first|apply decide_eq_true|apply z28);omega)))
  rw[e2];cases hbit:inW w i with
  |false=>
   refine y7 rfl ?_
   repeat(first|((with_reducible refine yf ?_ ?_ ?_);omega;omega)|(with_reducible refine y21 (by assumption) ?_))
   rw[el];refine z269 hN hw hs hne hnp m f (i+1) H (by omega) (by omega) kb hb kp hp ?_ hk;rw[←z43a (g:=plG w bit) (k:=i) (l:=N.ta) (by unfold plG;rw[hbit,if_neg Bool.false_ne_true])];exact kn
  |true=>
   have c1:z9 H (.ptr b (0+0))=some (.ptr nb 0):=y10 kb rfl;have e3:=zc7 (b:=nb) (o:=0+67) hi;have c2:z9 H (.ptr nb (0+67+i))=some (.int .u64 (N.ta.getD i 0:Int)):=y10 kn (by rw[Nat.zero_add,net_ta hN2 hi];show some (AV.int .u64 (((upd _ _ _).getD i 0:Nat):Int))=_;rw[z349]);refine y8 rfl ?_
   repeat(with_reducible first|refine Wp.lett ?_|(apply Wp.obind;first|exact c1|exact e3|exact c2|exact z5 _ _|exact z3e _ _|exact ze _ _ _))
   rw[z12f (zc3 hN.ts i) hs];refine Wp.st1 kn (by rw[z271 hN2];omega) rfl fun h' k' t' _=>?_;rw[Nat.zero_add,z323 hN2 hi] at k'
   repeat(first|((with_reducible refine yf ?_ ?_ ?_);omega;omega)|(with_reducible refine y21 (by assumption) ?_))
   rw[el];refine z269 hN hw hs hne hnp m f (i+1) h' (by omega) (by omega) (kb.tch t' hb (by simpa using hne)) (Nat.lt_of_lt_of_le hb t'.1) (kp.tch t' hp (by simpa using hnp)) (Nat.lt_of_lt_of_le hp t'.1) ?_ fun H' k2 t2=>hk H' k2 (t'.trans t2);have hu:=z3f8 (g:=plG w bit) (k:=i) (l:=N.ta) (by rw[hN.tl];exact hi);have hg:plG w bit i (N.ta.getD i 0)=N.ta.getD i 0|||bit:=by unfold plG;rw[hbit,if_pos rfl]
   rw[hg] at hu;rw[←hu];exact k'
theorem place_r(hN:NtOk N)(hw:WordsOk w)(hn:256<n)(hu:used<1000000)(hne:b≠nb)(kb:RowH h b TBl [.ptr nb 0,.int .i64 (used:Int)])(hb:b<h.next)(kn:RowH h nb TNet (netC N))(hnb:nb<h.next):
  ∃h',world n (d+1) 39 [.ptr b 0,.agg (z1c w)] h=some (.ret (.agg (pcC ⟨false,bitN used,bitN used⟩)),h')∧RowH h' b TBl [.ptr nb 0,.int .i64 ((used+1:Nat):Int)]∧RowH h' nb TNet (netC (N.place w (bitN used)))∧Tch [b,nb] h h':=by
 apply Wp.ex;rw[z213];unfold z86;have Mx:=y42 kb hb kn hnb hne;have o1:=z193 w;have el:(used:Int)+1=((used+1:Nat):Int):=by omega
 refine y16 Mx o1 fun h1 M1=>?_;clear Mx;have Mx:=M1;clear M1;have sh:=shlI_bit (u:=used)
 repeat(first|(with_reducible apply Wp.obind;first|exact z5 _ _|exact z3e _ _|exact ze _ _ _)|((with_reducible apply y1d Mx);rfl)|((with_reducible apply Wp.ms2 Mx);exact Nat.le_of_ble_eq_true rfl;rfl;clear Mx;intro _ Mx)|((with_reducible apply yc Mx);clear Mx;intro _ Mx)|(with_reducible refine y12 (fun _ _=>?_))|((with_reducible refine yf ?_ ?_ ?_);omega;omega)|(with_reducible apply Wp.obind;exact sh))
 rename_i k25 ek25;obtain⟨kp,hp,_⟩:=Mx.at1;obtain⟨kb2,hb2,_⟩:=Mx.at2;obtain⟨kn2,hn2,_⟩:=Mx.at3;have ap:=Mx.apart;simp only[List.map_cons,List.map_nil,List.nodup_cons,List.mem_cons,List.not_mem_nil,or_false,not_or] at ap;refine z269 hN hw (z202 used) hne ap.2.1.2 256 n 0 _ (by omega) rfl kb2 hb2 kp hp (by rw[z347];exact kn2) fun H' k2 t2=>?_;have M2:=y1b (xs:=[_,_,_]) Mx t2 k2;clear Mx;have Mx:=M2;clear M2;rw[ek25];simp only[List.cons_append,List.nil_append] at Mx
 repeat(first|((with_reducible apply y14 Mx);rfl)|((with_reducible apply y11 Mx);rfl;rfl;(rfl);clear Mx;intro _ Mx)|rw[z8])
 refine Wp.ret ⟨rfl,?_,Mx.at3.1,Mx.tch⟩;have:=Mx.at2.1;rw[el] at this;exact this
theorem pcC_one(p:Pc):(pcC p).all AV.one=true:=rfl
theorem behind_r(hN:NtOk N)(hp:PcOk p)(hq:PcOk q)(hn:64<n)(hne:b≠nb)(kb:RowH h b TBl [.ptr nb 0,v])(hb:b<h.next)(kn:RowH h nb TNet (netC N))(hnb:nb<h.next):
  ∃h',world n (d+2) 40 [.ptr b 0,.agg (pcC p),.agg (pcC q)] h=some (.ret (.agg (pcC (behN p q))),h')∧RowH h' b TBl [.ptr nb 0,v]∧RowH h' nb TNet (netC (N.follow p.last q.first))∧Tch [b,nb] h h':=by
 apply Wp.ex;rw[z208];unfold z79;have Mx:=y42 kb hb kn hnb hne;refine y16 Mx (pcC_one p) fun h1 M1=>?_;refine y16 M1 (pcC_one q) fun h2 M2=>?_;clear Mx M1;have Mx:=M2;clear M2;have e1:=fun (H:AHeap) (M:Mem [b,nb] h H ((h2.next,TPc,[.bool false,.int .u64 0,.int .u64 0])::(h1.next,TPc,pcC q)::(h.next,TPc,pcC p)::(b,TBl,[.ptr nb 0,v])::[(nb,TNet,netC N)]))=>z379 (n:=n) (d:=d) (h:=H) hN hq.f hp.l hn hne M.at3.1 M.at3.2.1 M.at4.1;unfold pcC at Mx e1
 repeat(first|(with_reducible apply Wp.obind;first|exact z5 _ _|exact ze _ _ _)|((with_reducible apply y36 Mx);rfl)|((with_reducible apply y1d Mx);rfl)|((with_reducible apply yc Mx);clear Mx;intro _ Mx)|rw[z8])
 refine Wp.cl4 (e1 _ Mx) Mx fun h3 M3=>?_;clear Mx;have Mx:=M3;clear M3;have oq:=z12f hq.l hp.l;have op:=z12f hp.f hq.f;cases hpe:p.empty with
 |false=>
  cases hqe:q.empty with
  |false=>
   rw[hpe,hqe] at Mx
   repeat(first|(with_reducible apply Wp.obind;first|exact z5 _ _|exact z6 _|exact ze _ _ _)|((with_reducible apply y14 Mx);rfl)|((with_reducible apply y11 Mx);rfl;rfl;(rfl);clear Mx;intro _ Mx)|((with_reducible apply y36 Mx);rfl)|((with_reducible apply y1a Mx);rfl)|((with_reducible apply y1c Mx);rfl;rfl;(rfl);clear Mx;intro _ Mx)|((with_reducible apply y1d Mx);rfl)|((with_reducible apply y55 Mx);rfl)|((with_reducible apply yc Mx);clear Mx;intro _ Mx)|(with_reducible first|(first|refine y12 (fun _ _=>?_)|refine y5 (fun _ _=>?_))|(refine y7 ?_ ?_;rfl)|(first|refine y21 (by assumption) ?_|refine yd (by assumption) ?_))|rw[z8])
   exact Wp.ret ⟨by unfold pcC behN;rw[hpe,hqe];rfl,Mx.at4.1,Mx.at5.1,Mx.tch⟩
  |true=>
   rw[hpe,hqe] at Mx
   repeat(first|(with_reducible apply Wp.obind;first|exact z5 _ _|exact z6 _|exact ze _ _ _)|((with_reducible apply y28 Mx);rfl)|((with_reducible apply y14 Mx);rfl)|((with_reducible apply y37 Mx);exact Nat.le_of_ble_eq_true rfl;rfl;clear Mx;intro _ Mx)|((with_reducible apply y11 Mx);rfl;rfl;(rfl);clear Mx;intro _ Mx)|((with_reducible apply y36 Mx);rfl)|((with_reducible apply y1a Mx);rfl)|((with_reducible apply y1c Mx);rfl;rfl;(rfl);clear Mx;intro _ Mx)|((with_reducible apply y1d Mx);rfl)|((with_reducible apply y55 Mx);rfl)|((with_reducible apply yc Mx);clear Mx;intro _ Mx)|(with_reducible first|(first|refine y12 (fun _ _=>?_)|refine y5 (fun _ _=>?_))|refine Wp.lett ?_|(refine y8 ?_ ?_;rfl)|(refine y7 ?_ ?_;rfl)|(first|refine y21 (by assumption) ?_|refine yd (by assumption) ?_))|rw[z8])
   rw[oq];exact Wp.ret ⟨by unfold pcC behN;rw[hpe,hqe];rfl,Mx.at4.1,Mx.at5.1,Mx.tch⟩
 |true=>
  cases hqe:q.empty with
  |false=>
   rw[hpe,hqe] at Mx
   repeat(first|(with_reducible apply Wp.obind;first|exact z5 _ _|exact z6 _|exact ze _ _ _)|((with_reducible apply y28 Mx);rfl)|((with_reducible apply y14 Mx);rfl)|((with_reducible apply y37 Mx);exact Nat.le_of_ble_eq_true rfl;rfl;clear Mx;intro _ Mx)|((with_reducible apply y11 Mx);rfl;rfl;(rfl);clear Mx;intro _ Mx)|((with_reducible apply y36 Mx);rfl)|((with_reducible apply y1a Mx);rfl)|((with_reducible apply y1c Mx);rfl;rfl;(rfl);clear Mx;intro _ Mx)|((with_reducible apply y1d Mx);rfl)|((with_reducible apply y55 Mx);rfl)|((with_reducible apply yc Mx);clear Mx;intro _ Mx)|(with_reducible first|(first|refine y12 (fun _ _=>?_)|refine y5 (fun _ _=>?_))|refine Wp.lett ?_|(refine y8 ?_ ?_;rfl)|(refine y7 ?_ ?_;rfl)|(first|refine y21 (by assumption) ?_|refine yd (by assumption) ?_))|rw[z8])
   rw[op];exact Wp.ret ⟨by unfold pcC behN;rw[hpe,hqe];rfl,Mx.at4.1,Mx.at5.1,Mx.tch⟩
  |true=>
   rw[hpe,hqe] at Mx
   repeat(first|(with_reducible apply Wp.obind;first|exact z5 _ _|exact z6 _|exact ze _ _ _)|((with_reducible apply y28 Mx);rfl)|((with_reducible apply y14 Mx);rfl)|((with_reducible apply y37 Mx);exact Nat.le_of_ble_eq_true rfl;rfl;clear Mx;intro _ Mx)|((with_reducible apply y11 Mx);rfl;rfl;(rfl);clear Mx;intro _ Mx)|((with_reducible apply y36 Mx);rfl)|((with_reducible apply y1a Mx);rfl)|((with_reducible apply y1c Mx);rfl;rfl;(rfl);clear Mx;intro _ Mx)|((with_reducible apply y1d Mx);rfl)|((with_reducible apply y55 Mx);rfl)|((with_reducible apply yc Mx);clear Mx;intro _ Mx)|(with_reducible first|(first|refine y12 (fun _ _=>?_)|refine y5 (fun _ _=>?_))|refine Wp.lett ?_|(refine y8 ?_ ?_;rfl)|(first|refine y21 (by assumption) ?_|refine yd (by assumption) ?_))|rw[z8])
   rw[op];rw[oq];exact Wp.ret ⟨by unfold pcC behN;rw[hpe,hqe];rfl,Mx.at4.1,Mx.at5.1,Mx.tch⟩
end
section
variable {h:AHeap}{l:List AV}{i:Nat}{v:AV}
set_option maxRecDepth 100000 in
theorem idx64(hi:i<64)(hl:l[i]? =some v):zd4 Tryd.prog h 53 (some (.agg l)) (some (.int .i64 (i:Int)))=some (.val v,h):=by
 have e:Nat.blt i 64=true:=by simpa using hi
 have:zd4 Tryd.prog h 53 (some (.agg l)) (some (.int .i64 (i:Int)))=(if Nat.blt i 64=true then z1cd h l[i*1]? else none):=by kernel_rfl
 rw[this,if_pos e,Nat.mul_one,hl];rfl
set_option maxRecDepth 100000 in
theorem idx256(hi:i<256)(hl:l[i]? =some v):zd4 Tryd.prog h 54 (some (.agg l)) (some (.int .i64 (i:Int)))=some (.val v,h):=by
 have e:Nat.blt i 256=true:=by simpa using hi
 have:zd4 Tryd.prog h 54 (some (.agg l)) (some (.int .i64 (i:Int)))=(if Nat.blt i 256=true then z1cd h l[i*1]? else none):=by kernel_rfl
 rw[this,if_pos e,Nat.mul_one,hl];rfl
end
theorem z39b{w:List Nat}{i:Nat}(h:i<w.length):(z1c w)[i]? =some (.int .u64 ((w.getD i 0:Nat):Int)):=by
 unfold z1c;rw[List.getElem?_map,List.getD_eq_getElem?_getD,List.getElem?_eq_getElem h];rfl
def aheadF(fo:List Nat)(these:Nat):Nat→Nat
 |0=>0
 |i+1=>if fo.getD i 0&&&these≠0 then aheadF fo these i|||2 ^ i else aheadF fo these i
theorem z108{fo:List Nat}{these:Nat}:∀(i:Nat),i≤64→aheadF fo these i<18446744073709551616
 |0,_=>by
  show 0<_;decide
 |i+1,h=>by
  rw[aheadF]
  split
  ·exact zb1 (z108 i (by omega)) (z146 (by omega))
  ·exact z108 i (by omega)
def orF(ta:List Nat):Nat→Nat
 |0=>0
 |i+1=>orF ta i|||ta.getD i 0
theorem z2c7{ta:List Nat}(h:∀x∈ta,x<18446744073709551616):∀(i:Nat),orF ta i<18446744073709551616
 |0=>by
  show 0<_;decide
 |i+1=>zb1 (z2c7 h i) (zc3 h i)
def z17f(fo:List Nat)(sm live:Nat):Nat:=lackN (aheadF fo live 64&&&sm) live
theorem z174(fo:List Nat)(sm live:Nat):z17f fo sm live<18446744073709551616:=z32b (zaa (z108 64 (Nat.le_refl _)))
theorem more_up{fo:List Nat}{sm live:Nat}(h:z17f fo sm live≠0):live<live|||z17f fo sm live:=by
 refine Nat.lt_of_le_of_ne Nat.left_le_or fun e=>h ?_;refine Nat.eq_of_testBit_eq fun i=>?_;rw[Nat.zero_testBit];cases hb:(z17f fo sm live).testBit i with
 |false=>rfl
 |true=>
  have h2:live.testBit i=true:=by rw[e,Nat.testBit_or,hb,Bool.or_true]
  unfold z17f at hb;rw[z24a,h2] at hb
  simp at hb
def z298(fo:List Nat)(sm:Nat):Nat→Nat→Nat→Nat
 |0,live,_=>live
 |f+1,live,more=>if more=0 then live else z298 fo sm f (live|||z17f fo sm live) (z17f fo sm live)
theorem z2da{fo:List Nat}{sm:Nat}:∀(f:Nat) {live:Nat} (more:Nat),live<18446744073709551616→z298 fo sm f live more<18446744073709551616
 |0,_,_,h=>h
 |f+1,_,_,h=>by
  rw[z298]
  split
  ·exact h
  ·exact z2da f _ (zb1 h (z174 _ _ _))
def cutG(live _i x:Nat):Nat:=x&&&live
def Nt.live(N:Nt):Nat:=z298 N.fo (orF N.ta 256) 18446744073709551620 (N.last&&&orF N.ta 256) (N.last&&&orF N.ta 256)
def Nt.trim(N:Nt):Nt:={N with first:=N.first&&&N.live,ta:=z36f (cutG N.live) 0 N.ta}
theorem NtOk.trim{N:Nt}(k:NtOk N):NtOk N.trim:=
 ⟨k.fl,by show (z36f _ _ _).length=_;rw[z1fb];exact k.tl,zaa k.f,k.l,k.fs,z1fa k.ts fun i x hx=>zaa hx⟩
theorem y5b{N:Nt}(k:NtOk N):N.live<18446744073709551616:=z2da _ _ (zaa k.l)
def behF(fo:List Nat):Nat→Nat→Nat→Nat
 |0,_,acc=>acc
 |f+1,m,acc=>if m=0 then acc else behF fo f (m&&&(m - 1)) (acc|||fo.getD (tzN m) 0)
theorem z33c{fo:List Nat}(hf:∀x∈fo,x<18446744073709551616):∀(f m:Nat) {acc:Nat},acc<18446744073709551616→behF fo f m acc<18446744073709551616
 |0,_,_,h=>h
 |f+1,_,_,h=>by
  rw[behF]
  split
  ·exact h
  ·exact z33c hf f _ (zb1 h (zc3 hf _))
def Nt.behind(N:Nt)(m:Nat):Nat:=behF N.fo 18446744073709551620 m 0
theorem Nt.behind_small{N:Nt}(k:NtOk N)(m:Nat):N.behind m<18446744073709551616:=z33c k.fs _ _ (by decide)
section
variable {N:Nt}{n d nb:Nat}{h:AHeap}{Q:ARes→AHeap→Prop}
theorem net_drop3(k:NtOk N):((netC N).drop 3).take 64=z1c N.fo:=by
 show (z1c N.fo++z1c N.ta).take 64=_;rw[List.take_append_of_le_length (by rw[z38,k.fl];exact Nat.le_refl _),List.take_of_length_le (by rw[z38,k.fl];exact Nat.le_refl _)]
theorem z4a1(k:NtOk N):((netC N).drop 67).take 256=z1c N.ta:=by
 show ((z1c N.fo++z1c N.ta).drop 64).take 256=_;rw[List.drop_append_of_le_length (by rw[z38,k.fl];exact Nat.le_refl _),List.drop_of_length_le (by rw[z38,k.fl];exact Nat.le_refl _),List.nil_append,List.take_of_length_le (by rw[z38,k.tl];exact Nat.le_refl _)]
theorem z33f{these:Nat}{fo:List Nat}{k9:Int→AHeap→R}(hl:fo.length=64)(hs:∀x∈fo,x<18446744073709551616)(ht:these<18446744073709551616)(hk:Wp (k9 (aheadF fo these 64:Nat) h) Q):∀(m f i:Nat),m<f→i+m=64→Wp (zba (these:Int) (z1c fo) k9 f (aheadF fo these i:Nat) (i:Int) h) Q
 |_,0,_,hf,_=>by omega
 |0,f+1,i,hf,hm=>by
  have:i=64:=by omega
  subst this;rw[z11a];unfold za5
  repeat(first|(with_reducible refine Wp.lett ?_)|((with_reducible refine y7 ?_ ?_;apply decide_eq_false);omega))
  exact hk
 |m+1,f+1,i,hf,hm=>by
  rw[z11a];unfold za5;have hi:i<64:=by omega
  have e1:=idx64 (h:=h) hi (z39b (w:=fo) (i:=i) (by omega));have e2:=zfa (zc3 hs i) ht;have e3:=z1f5 hi;have e4:=z12f (z108 (fo:=fo) (these:=these) i (by omega)) (z146 hi);have el:(i:Int)+1=((i+1:Nat):Int):=by omega
  have ih:=z33f hl hs ht hk m f (i+1) (by omega) (by omega);rw[aheadF] at ih
  ((with_reducible refine Wp.lett ?_))
  refine y8 (decide_eq_true (by omega)) ?_;refine Wp.outK e1 ?_;refine Wp.obind (z5 _ _) ?_;refine Wp.lett ?_;rw[e2]
  by_cases hz:fo.getD i 0&&&these≠0
  ·rw [if_pos hz] at ih
   repeat(first|(with_reducible refine y5 (fun _ _=>?_))|((with_reducible refine yf ?_ ?_ ?_);omega;omega)|(with_reducible first|refine Wp.lett ?_|(apply Wp.obind;exact e3))|((with_reducible refine y8 ?_ ?_;apply zab);omega)|(with_reducible refine yd (by assumption) ?_))
   rw[e4];rw[el];exact ih
  ·rw [if_neg hz] at ih
   repeat(first|(with_reducible refine y5 (fun _ _=>?_))|((with_reducible refine yf ?_ ?_ ?_);omega;omega)|(with_reducible refine Wp.lett ?_)|((with_reducible refine y7 ?_ ?_;apply zc9);omega)|(with_reducible refine yd (by assumption) ?_))
   rw[el];exact ih
theorem ahead_w{these:Nat}(hN:NtOk N)(ht:these<18446744073709551616)(hn:64<n)(kn:RowH h nb TNet (netC N)):world n (d+1) 42 [.ptr nb 0,.int .u64 (these:Int)] h=some (.ret (.int .u64 (aheadF N.fo these 64:Nat)),h):=by
 apply Wp.eq;rw[z2ab];unfold zde
 have e1:z15 h 64 (.ptr nb (0+3))=some (z1c N.fo):=by
  rw[←net_drop3 hN];exact kn.ld (by rw[z271 hN];decide)
 repeat(with_reducible first|refine y5 (fun _ _=>?_)|(apply Wp.obind;first|exact e1|exact z3e _ _|exact ze _ _ _))
 rename_i k9 ek9;refine z33f hN.fl hN.fs ht ?_ 64 n 0 (by omega) rfl;rw[ek9];exact Wp.ret ⟨rfl,rfl⟩
theorem z479{k5:Int→AHeap→R}(hT:HasTz h)(hN:NtOk N)(kn:RowH h nb TNet (netC N)):∀(f F m acc:Nat),m<f→m<F→m<18446744073709551616→acc<18446744073709551616→Wp (k5 (behF N.fo F m acc:Nat) h) Q→Wp (za4 (world n (d+1)) (.ptr nb 0) k5 f (m:Int) (acc:Int) h) Q
 |0,_,_,_,hf,_,_,_,_=>by omega
 |_,0,_,_,_,hf,_,_,_=>by omega
 |f+1,F+1,m,acc,hf,hF,hm,ha,hk=>by
  rw[z173];unfold zc6;rw[behF] at hk
  by_cases h0:m=0
  ·rw [if_pos h0] at hk
   repeat(first|(with_reducible refine Wp.lett ?_)|((with_reducible refine y7 ?_ ?_;apply zc9);omega))
   exact hk
  ·rw [if_neg h0] at hk
   have e0:=tz_w (n:=n) (d:=d) hT hm h0;have e1:=zc7 (b:=nb) (o:=0+3) (tzN_lt m);have e2:z9 h (.ptr nb (0+3+tzN m))=some (.int .u64 (N.fo.getD (tzN m) 0:Int)):=y10 kn (by rw[Nat.zero_add,net_fo hN (tzN_lt m)]);have e3:=z12f ha (zc3 hN.fs (tzN m))
   have e4:IntKind.u64.wrap ((m:Int) - 1)=((m - 1:Nat):Int):=by
    rw[z83];omega
   have e5:=zfa hm (y:=m - 1) (by omega);have hl:=low_lt h0
   ((with_reducible refine Wp.lett ?_))
   refine y8 (zab (by omega)) ?_
   repeat(first|((with_reducible refine y61 ?_ ?_ ?_);omega;omega)|(with_reducible first|refine Wp.lett ?_|(apply Wp.obind;first|exact e1|exact e2|exact z5 _ _|exact z3e _ _|exact ze _ _ _)|(apply Wp.callN;exact e0)))
   rw[e3,show ((m:Int) - 1)=((m - 1:Nat):Int) by omega,e5];refine z479 hT hN kn f F (m&&&(m - 1)) _ (by omega) (by omega) (by omega) (zb1 ha (zc3 hN.fs _)) hk
theorem beh_w{m:Nat}(hT:HasTz h)(hN:NtOk N)(kn:RowH h nb TNet (netC N))(hm:m<18446744073709551616)(hn:18446744073709551616<n):world n (d+2) 35 [.ptr nb 0,.int .u64 (m:Int)] h=some (.ret (.int .u64 (N.behind m:Nat)),h):=by
 apply Wp.eq;rw[z28f];unfold zc2
 ((with_reducible refine y5 (fun _ _=>?_)))
 rename_i k5 ek5;refine z479 hT hN kn n 18446744073709551620 m 0 (by omega) (by omega) hm (by decide) ?_;rw[ek5];exact Wp.ret ⟨rfl,rfl⟩
end
section
variable {N:Nt}{n d nb:Nat}{h:AHeap}{Q:ARes→AHeap→Prop}
theorem z3aa{ta:List Nat}{k8:Int→AHeap→R}(hl:ta.length=256)(hs:∀x∈ta,x<18446744073709551616)(hk:Wp (k8 (orF ta 256:Nat) h) Q):∀(m f i:Nat),m<f→i+m=256→Wp (zd5 (z1c ta) k8 f (orF ta i:Nat) (i:Int) h) Q
 |_,0,_,hf,_=>by omega
 |0,f+1,i,hf,hm=>by
  have:i=256:=by omega
  subst this;rw[z130];unfold zb8
  repeat(first|(with_reducible refine Wp.lett ?_)|((with_reducible refine y7 ?_ ?_;apply decide_eq_false);omega))
  exact hk
 |m+1,f+1,i,hf,hm=>by
  rw[z130];unfold zb8;have hi:i<256:=by omega
  have e1:=idx256 (h:=h) hi (z39b (w:=ta) (i:=i) (by omega));have e4:=z12f (z2c7 hs i) (zc3 hs i);have el:(i:Int)+1=((i+1:Nat):Int):=by omega
  have ih:=z3aa hl hs hk m f (i+1) (by omega) (by omega);rw[orF] at ih
  ((with_reducible refine Wp.lett ?_))
  refine y8 (decide_eq_true (by omega)) ?_;refine Wp.outK e1 ?_;refine Wp.obind (z5 _ _) ?_;refine Wp.lett ?_;rw[e4]
  repeat(((with_reducible refine yf ?_ ?_ ?_);omega;omega))
  rw[el];exact ih
theorem z3cc{sm:Nat}{k19:Int→AHeap→R}(hN:NtOk N)(hs:sm<18446744073709551616)(hn:64<n)(kn:RowH h nb TNet (netC N)):∀(f F live more:Nat),(if more=0 then 0 else 18446744073709551616 - live)<f→(if more=0 then 0 else 18446744073709551616 - live)<F→live<18446744073709551616→more<18446744073709551616→Wp (k19 (z298 N.fo sm F live more:Nat) h) Q→Wp (zd6 (world n (d+1)) (.ptr nb 0) (sm:Int) k19 f (live:Int) (more:Int) h) Q
 |0,_,_,_,hf,_,_,_,_=>by omega
 |_,0,_,_,_,hf,_,_,_=>by omega
 |f+1,F+1,live,more,hf,hF,hl,hm,hk=>by
  rw[z19e];unfold zf7;rw[z298] at hk
  by_cases h0:more=0
  ·rw [if_pos h0] at hk
   repeat(first|(with_reducible refine Wp.lett ?_)|((with_reducible refine y7 ?_ ?_;apply zc9);omega))
   exact hk
  ·rw [if_neg h0] at hk hf hF
   have e0:=ahead_w (d:=d) hN hl hn kn;have e1:=zfa (z108 (fo:=N.fo) (these:=live) 64 (Nat.le_refl _)) hs;have e2:z392 .u64 ((aheadF N.fo live 64&&&sm:Nat):Int) (live:Int)=((z17f N.fo sm live:Nat):Int):=z433 (zaa (z108 64 (Nat.le_refl _))) hl;have e3:=z12f hl (z174 N.fo sm live);have hup:z17f N.fo sm live≠0→live<live|||z17f N.fo sm live:=more_up;have hsm:=zb1 hl (z174 N.fo sm live)
   ((with_reducible refine Wp.lett ?_))
   refine y8 (zab (by omega)) ?_;refine Wp.callN e0 ?_;refine Wp.obind (z5 _ _) ?_;refine Wp.lett ?_;rw[e1];refine Wp.lett ?_;rw[e2];refine Wp.lett ?_;rw[e3];refine z3cc hN hs hn kn f F _ _ ?_ ?_ hsm (z174 _ _ _) hk
   ·split
    ·omega
    ·have := hup (by assumption)
     omega
   ·split
    ·omega
    ·have := hup (by assumption)
     omega
theorem z471{live:Nat}{k33:AHeap→R}(hN:NtOk N)(hs:live<18446744073709551616):∀(m f i:Nat) (H:AHeap),m<f→i+m=256→RowH H nb TNet (netC {N with ta:=upd (cutG live) i N.ta})→
  (∀H',RowH H' nb TNet (netC {N with ta:=z36f (cutG live) 0 N.ta})→Tch [nb] H H'→Wp (k33 H') Q)→Wp (zd7 (.ptr nb 0) (live:Int) k33 f (i:Int) H) Q
 |_,0,_,_,hf,_,_,_=>by omega
 |0,f+1,i,H,hf,hm,kn,hk=>by
  rw[z131];unfold zb9
  repeat(first|(with_reducible refine Wp.lett ?_)|((with_reducible refine y7 ?_ ?_;apply decide_eq_false);omega))
  refine hk H ?_ (Tch.refl _ _);have:i=256:=by omega
  subst this;rw[z34a hN.tl] at kn;exact kn
 |m+1,f+1,i,H,hf,hm,kn,hk=>by
  rw[z131];unfold zb9;have hi:i<256:=by omega
  have hN2:NtOk {N with ta:=upd (cutG live) i N.ta}:=⟨hN.fl,by show (upd _ _ _).length=_;rw[z348];exact hN.tl,hN.f,hN.l,hN.fs,z2ae hN.ts fun i x hx=>zaa hx⟩;have el:(i:Int)+1=((i+1:Nat):Int):=by omega
  have e3:=zc7 (b:=nb) (o:=0+67) hi;have c2:z9 H (.ptr nb (0+67+i))=some (.int .u64 (N.ta.getD i 0:Int)):=y10 kn (by rw[Nat.zero_add,net_ta hN2 hi];show some (AV.int .u64 (((upd _ _ _).getD i 0:Nat):Int))=_;rw[z349]);have e4:=zfa (zc3 hN.ts i) hs
  repeat(first|(with_reducible first|refine Wp.lett ?_|(apply Wp.obind;first|exact e3|exact c2|exact z5 _ _|exact z3e _ _|exact ze _ _ _))|((with_reducible refine y8 ?_ ?_;apply decide_eq_true);omega))
  rw[e4];refine Wp.st1 kn (by rw[z271 hN2];omega) rfl fun h' k' t' _=>?_;rw[Nat.zero_add,z323 hN2 hi] at k'
  repeat(((with_reducible refine yf ?_ ?_ ?_);omega;omega))
  rw[el];refine z471 hN hs m f (i+1) h' (by omega) (by omega) ?_ fun H' k2 t2=>hk H' k2 (t'.trans t2);have hu:=z3f8 (g:=cutG live) (k:=i) (l:=N.ta) (by rw[hN.tl];exact hi);rw[←hu];exact k'
theorem trim_r(hN:NtOk N)(hn:18446744073709551620<n)(kn:RowH h nb TNet (netC N)):∃h',world n (d+2) 26 [.ptr nb 0] h=some (.ret (.tup []),h')∧RowH h' nb TNet (netC N.trim)∧Tch [nb] h h':=by
 apply Wp.ex;rw[z305];unfold z106
 have e1:z15 h 256 (.ptr nb (0+67))=some (z1c N.ta):=by
  rw[←z4a1 hN];exact kn.ld (by rw[z271 hN];decide)
 repeat(with_reducible first|refine y5 (fun _ _=>?_)|(apply Wp.obind;first|exact e1|exact z3e _ _|exact ze _ _ _))
 rename_i k8 ek8;refine z3aa hN.tl hN.ts ?_ 256 n 0 (by omega) rfl;rw[ek8];have hsm:=z2c7 hN.ts 256;have c1:z9 h (.ptr nb (0+2))=some (.int .u64 (N.last:Int)):=y10 kn rfl;have e2:=zfa hN.l hsm;have hl:=zaa (b:=orF N.ta 256) hN.l
 repeat(with_reducible first|refine y5 (fun _ _=>?_)|refine Wp.lett ?_|(apply Wp.obind;first|exact c1|exact z5 _ _|exact z3e _ _|exact ze _ _ _))
 rename_i k19 ek19;rw[e2];refine z3cc hN hsm (by omega) kn n 18446744073709551620 _ _ (by split<;>omega) (by split<;>omega) hl hl ?_;rw[ek19];have hL:=y5b hN;have c2:z9 h (.ptr nb (0+1))=some (.int .u64 (N.first:Int)):=y10 kn rfl;have e3:=zfa hN.f hL;have eL:z298 N.fo (orF N.ta 256) 18446744073709551620 (N.last&&&orF N.ta 256) (N.last&&&orF N.ta 256)=N.live:=rfl;rw[eL]
 repeat(with_reducible first|refine Wp.lett ?_|(apply Wp.obind;first|exact c2|exact z5 _ _|exact z3e _ _|exact ze _ _ _))
 rw[e3];refine Wp.st1 kn (by rw[z271 hN];omega) rfl fun h' k' t' _=>?_
 repeat((with_reducible refine y12 (fun _ _=>?_)))
 rename_i k33 ek33;refine z471 (N:={N with first:=N.first&&&N.live}) ⟨hN.fl,hN.tl,zaa hN.f,hN.l,hN.fs,hN.ts⟩ hL 256 n 0 h' (by omega) rfl ?_ fun H' k2 t2=>?_
 ·rw [z347]
  exact k'
 ·rw [ek33]
  exact Wp.ret ⟨rfl,k2,t'.trans t2⟩
end
mutual
def Nd.sz:Nd→Nat
 | .mk _ _ ks=>szL ks+1
def szL:List Nd→Nat
 |[]=>0
 |k::ks=>Nd.sz k+szL ks+1
end
theorem z2b2:∀ks:List Nd,ks.length≤szL ks
 |[]=>Nat.zero_le _
 |k::ks=>by
  have:=z2b2 ks;rw[List.length_cons,szL];omega
def RowsAt(h:AHeap)(T:List z9e):Prop:=∀y∈T,RowH h y.1 y.2.1 y.2.2∧y.1<h.next
theorem RowsAt.keep{h h':AHeap}{T:List z9e}(k:RowsAt h T)(t:Tch [] h h'):RowsAt h' T:=fun y hy=>⟨(k y hy).1.tch t (k y hy).2 (by simp),Nat.lt_of_lt_of_le (k y hy).2 t.1⟩
theorem RowsAt.left{h:AHeap}{T T':List z9e}(k:RowsAt h (T++T')):RowsAt h T:=fun y hy=>k y (List.mem_append_left _ hy)
theorem RowsAt.right{h:AHeap}{T T':List z9e}(k:RowsAt h (T++T')):RowsAt h T':=fun y hy=>k y (List.mem_append_right _ hy)
theorem z13f{h:AHeap}{kc:List (List AV)}{kv:AV}{T:List z9e}(g:GrowT z17 6 kc kv T)(k:RowsAt h T):Slc h.next h 6 kv kc:=by
 refine Sli.slc (e:=z17) (lo:=0) ⟨fun r hr=>g.1 r hr,?_⟩
 rcases g.2 with⟨h1,h2,_⟩|⟨h1,c,h2,rfl⟩
 ·exact .inl ⟨h1,h2⟩
 ·obtain ⟨k1, k2⟩ := k (c, z17, kc.flatten) (by simp)
  exact .inr ⟨c,h1,h2,Nat.zero_le _,k2,k1⟩
def noPc:Pc:=⟨true,0,0⟩
def altP(p q:Pc):Pc:=⟨p.empty||q.empty,p.first|||q.first,p.last|||q.last⟩
mutual
def z51:Nd→Nt→Nat→Pc×Nt×Nat
 | .mk op w ks,N,u=>
  if op=2 then (⟨false,bitN u,bitN u⟩,N.place w (bitN u),u+1)
  else if op=3 then catN ks noPc N u
  else if op=4 then altN ks ⟨false,0,0⟩ N u
  else if op=5∨op=6 then (⟨(z1cc ks N u).1.empty||decide (op=5),(z1cc ks N u).1.first,(z1cc ks N u).1.last⟩,(z1cc ks N u).2.1.follow (z1cc ks N u).1.last (z1cc ks N u).1.first,(z1cc ks N u).2.2)
  else if op=7 then (⟨true,(z1cc ks N u).1.first,(z1cc ks N u).1.last⟩,(z1cc ks N u).2.1,(z1cc ks N u).2.2)
  else (noPc,N,u)
def catN:List Nd→Pc→Nt→Nat→Pc×Nt×Nat
 |[],p,N,u=>(p,N,u)
 |k::ks,p,N,u=>catN ks (behN p (z51 k N u).1) ((z51 k N u).2.1.follow p.last (z51 k N u).1.first) (z51 k N u).2.2
def altN:List Nd→Pc→Nt→Nat→Pc×Nt×Nat
 |[],p,N,u=>(p,N,u)
 |k::ks,p,N,u=>altN ks (altP p (z51 k N u).1) (z51 k N u).2.1 (z51 k N u).2.2
def z1cc:List Nd→Nt→Nat→Pc×Nt×Nat
 |[],N,u=>(noPc,N,u)
 |k::_,N,u=>z51 k N u
end
structure ROk (x:Pc×Nt×Nat) (b:Nat):Prop where
 p:PcOk x.1
 n:NtOk x.2.1
 u:x.2.2≤b
theorem altP_ok{p q:Pc}(a:PcOk p)(b:PcOk q):PcOk (altP p q):=⟨zb1 a.f b.f,zb1 a.l b.l⟩
theorem z2cd:PcOk noPc:=⟨by decide,by decide⟩
mutual
theorem zd2:∀(t:Nd) {N:Nt} {u:Nat},NtOk N→ROk (z51 t N u) (u+t.sz)
 | .mk op w ks,N,u,k=>by
  rw[z51,Nd.sz]
  split
  ·exact⟨⟨z202 u,z202 u⟩,k.place (z202 u),by show u+1≤_;omega⟩
  split
  ·have := catN_ok ks (u := u) z2cd k
   exact⟨this.p,this.n,Nat.le_trans this.u (by omega)⟩
  split
  ·have := altN_ok ks (p := ⟨false, 0, 0⟩) (u := u) ⟨by decide, by decide⟩ k
   exact⟨this.p,this.n,Nat.le_trans this.u (by omega)⟩
  have hh:=z460 ks (u:=u) k
  split
  ·exact⟨⟨hh.p.f,hh.p.l⟩,hh.n.follow hh.p.f,Nat.le_trans hh.u (by omega)⟩
  split
  ·exact⟨⟨hh.p.f,hh.p.l⟩,hh.n,Nat.le_trans hh.u (by omega)⟩
  ·exact⟨z2cd,k,by show u≤_;omega⟩
theorem catN_ok:∀(ks:List Nd) {p:Pc} {N:Nt} {u:Nat},PcOk p→NtOk N→ROk (catN ks p N u) (u+szL ks)
 |[],p,N,u,hp,hN=>⟨hp,hN,by show u≤_;omega⟩
 |k::ks,p,N,u,hp,hN=>by
  have h1:=zd2 k (u:=u) hN;have h2:=catN_ok ks (u:=(z51 k N u).2.2) (z42e hp h1.p) (h1.n.follow (those:=p.last) h1.p.f);rw[catN,szL];exact⟨h2.p,h2.n,Nat.le_trans h2.u (by have:=h1.u;omega)⟩
theorem altN_ok:∀(ks:List Nd) {p:Pc} {N:Nt} {u:Nat},PcOk p→NtOk N→ROk (altN ks p N u) (u+szL ks)
 |[],p,N,u,hp,hN=>⟨hp,hN,by show u≤_;omega⟩
 |k::ks,p,N,u,hp,hN=>by
  have h1:=zd2 k (u:=u) hN;have h2:=altN_ok ks (u:=(z51 k N u).2.2) (altP_ok hp h1.p) h1.n;rw[altN,szL];exact⟨h2.p,h2.n,Nat.le_trans h2.u (by have:=h1.u;omega)⟩
theorem z460:∀(ks:List Nd) {N:Nt} {u:Nat},NtOk N→ROk (z1cc ks N u) (u+szL ks)
 |[],N,u,hN=>⟨z2cd,hN,by show u≤_;omega⟩
 |k::ks,N,u,hN=>by
  have h1:=zd2 k (u:=u) hN;rw[z1cc,szL];exact⟨h1.p,h1.n,Nat.le_trans h1.u (by omega)⟩
end
mutual
def z2fe:Nd→Prop
 | .mk op _ ks=>((3≤op→ks≠[])∧(5≤op→ks.length=1))∧oneL ks
def oneL:List Nd→Prop
 |[]=>True
 |k::ks=>z2fe k∧oneL ks
end
theorem y3c{S:List Nat}{h0 h h':AHeap}{xs ys:List z9e}{b c:Nat}{e f:TypeId}{l l' m m':List AV}(M:Mem S h0 h (xs++(b,e,l)::(c,f,m)::ys))(ht:Tch [b,c] h h')(k1:RowH h' b e l')(k2:RowH h' c f m'):Mem S h0 h' (xs++(b,e,l')::(c,f,m')::ys):=by
 have hap:=M.apart;have hle:=ht.1;simp only[List.map_append,List.map_cons] at hap
 have hne:∀x∈xs++ys,x.1≠b∧x.1≠c:=by
  intro x hx;rw[List.nodup_append] at hap;obtain⟨_,h2,h3⟩:=hap;rw[List.nodup_cons,List.nodup_cons] at h2
  rcases List.mem_append.1 hx with hx|hx
  ·exact⟨h3 x.1 (List.mem_map_of_mem hx) b (by simp),h3 x.1 (List.mem_map_of_mem hx) c (by simp)⟩
  ·exact⟨fun hxb=>h2.1 (by rw[←hxb];exact List.mem_cons_of_mem _ (List.mem_map_of_mem hx)),fun hxb=>h2.2.1 (by rw[←hxb];exact List.mem_map_of_mem hx)⟩
 have rb:=M.row (b,e,l) (by simp);have rc:=M.row (c,f,m) (by simp);refine⟨fun x hx=>?_,by simpa only[List.map_append,List.map_cons] using hap,M.tch.trans' ht fun i hi=>?_⟩
 ·have hx' : x ∈ xs ++ ys ∨ x = (b, e, l') ∨ x = (c, f, m') := by
   rcases List.mem_append.1 hx with hx|hx
   ·exact .inl (List.mem_append_left _ hx)
   ·rcases List.mem_cons.1 hx with hx | hx
    ·exact .inr (.inl hx)
    ·rcases List.mem_cons.1 hx with hx | hx
     ·exact .inr (.inr hx)
     ·exact .inl (List.mem_append_right _ hx)
  rcases hx' with hx'|rfl|rfl
  ·obtain ⟨h1, h2, h3⟩ := M.row x (by
    rcases List.mem_append.1 hx' with hx|hx
    ·exact List.mem_append_left _ hx
    ·exact List.mem_append_right _ (List.mem_cons_of_mem _ (List.mem_cons_of_mem _ hx)))
   exact⟨h1.tch ht h2 (by simpa using hne x hx'),by omega,h3⟩
  ·exact⟨k1,Nat.lt_of_lt_of_le rb.2.1 hle,rb.2.2⟩
  ·exact⟨k2,Nat.lt_of_lt_of_le rc.2.1 hle,rc.2.2⟩
 ·simp only [List.mem_cons, List.not_mem_nil, or_false] at hi
  rcases hi with rfl|rfl
  ·exact rb.2.2
  ·exact rc.2.2
theorem RowsAt.keepS{h h':AHeap}{T:List z9e}{S:List Nat}(k:RowsAt h T)(t:Tch S h h')(hS:∀y∈T,y.1 ∉ S):RowsAt h' T:=fun y hy=>⟨(k y hy).1.tch t (k y hy).2 (hS y hy),Nat.lt_of_lt_of_le (k y hy).2 t.1⟩
def PieceW(n D b nb:Nat)(h0:AHeap)(c:List AV)(t:Nd):Prop:=∀(N:Nt) (u:Nat) (h:AHeap),NtOk N→u+t.sz<1000000→Tch [b,nb] h0 h→RowH h b TBl [.ptr nb 0,.int .i64 (u:Int)]→RowH h nb TNet (netC N)→
 ∃h',world n D 25 [.ptr b 0,.agg c] h=some (.ret (.agg (pcC (z51 t N u).1)),h')∧RowH h' b TBl [.ptr nb 0,.int .i64 ((z51 t N u).2.2:Nat)]∧RowH h' nb TNet (netC (z51 t N u).2.1)∧Tch [b,nb] h h'
inductive KidP (n D b nb:Nat) (h0:AHeap):List (List AV)→List Nd→Prop
 |nil:KidP n D b nb h0 [] []
 |cons {c:List AV} {t:Nd} {l:List (List AV)} {ks:List Nd} (e:PieceW n D b nb h0 c t) (k:KidP n D b nb h0 l ks):KidP n D b nb h0 (c::l) (t::ks)
theorem PieceW.keep{n D b nb:Nat}{h0 h1:AHeap}{c:List AV}{t:Nd}(k:PieceW n D b nb h0 c t)(th:Tch [b,nb] h0 h1):PieceW n D b nb h1 c t:=fun N u h a1 a2 a3 a4 a5=>k N u h a1 a2 (th.trans a3) a4 a5
theorem KidP.keep{n D b nb:Nat}{h0 h1:AHeap}{l:List (List AV)}{ks:List Nd}(k:KidP n D b nb h0 l ks)(th:Tch [b,nb] h0 h1):KidP n D b nb h1 l ks:=by
 induction k with
 |nil=>exact .nil
 |cons e _ ih=>exact .cons (e.keep th) ih
theorem z149{α:Type}{K m:List α}{c:α}{i:Nat}(d:K.drop i=c::m):∃hi:i<K.length,K[i]=c∧K.drop (i+1)=m:=by
 have hi:i<K.length:=by
  have:=congrArg List.length d;rw[List.length_drop,List.length_cons] at this;omega
 have g:=List.drop_eq_getElem_cons hi;rw[d] at g;simp only[List.cons.injEq] at g;exact⟨hi,g.1.symm,g.2.symm⟩
theorem z186{α:Type}{K:List α}{i:Nat}(d:K.drop i=[]):K.length≤i:=by
 have:=congrArg List.length d;rw[List.length_drop,List.length_nil] at this;omega
section
variable {h:AHeap}{n d b nb:Nat}{kv:AV}{K:List (List AV)}{T ys:List z9e}{Q:ARes→AHeap→Prop}
theorem z473{k36:AHeap→R}{h4:AHeap}(g:GrowT z17 6 K kv T)(r:RowsAt h T)(hT:∀y∈T,y.1 ∉ [b,nb])(hK:∀c∈K,c.length=6∧c.all AV.one=true)(hn:64<n)(hKn:K.length<1000000)(hne:b≠nb):∀(l:List (List AV)) (ks:List Nd) (i f:Nat) (H:AHeap) (p:Pc) (N:Nt) (u:Nat),KidP n (d+2) b nb h l ks→K.drop i=l→K.length - i<f→NtOk N→PcOk p→u+szL ks<1000000→
  Mem [b,nb] h H ((h4.next,TPc,pcC p)::(b,TBl,[.ptr nb 0,.int .i64 (u:Int)])::(nb,TNet,netC N)::ys)→
  (∀H',Mem [b,nb] h H' ((h4.next,TPc,pcC (catN ks p N u).1)::(b,TBl,[.ptr nb 0,.int .i64 ((catN ks p N u).2.2:Nat)])::(nb,TNet,netC (catN ks p N u).2.1)::ys)→Wp (k36 H') Q)→Wp (z7e (world n (d+2)) (.ptr b 0) h4 kv (K.length:Int) k36 f (i:Int) H) Q
 |_,_,_,0,_,_,_,_,_,_,hf,_,_,_,_,_=>by omega
 |l,ks,i,f+1,H,p,N,u,kk,d1,hf,hN,hp,hu,Mx,hk=>by
  rw[z128];unfold z99
  cases kk with
  |nil=>
   have:=z186 d1
   repeat(first|(with_reducible refine Wp.lett ?_)|((with_reducible refine y7 ?_ ?_;apply decide_eq_false);omega))
   exact hk H Mx
  |cons e k=>
   rename_i c t m ks;rw[szL] at hu;obtain⟨hi1,hc,d2⟩:=z149 d1;have rH:=r.keepS Mx.tch hT;obtain⟨p1,_,x1,y1⟩:=(z13f g rH).row hi1;obtain⟨l6,o6⟩:=hK _ (List.getElem_mem hi1);rw[hc] at y1 l6 o6;have hr:=zd2 t (u:=u) hN;rw[catN] at hk
   repeat(first|((with_reducible apply yc Mx);clear Mx;intro _ Mx)|(with_reducible first|refine Wp.lett ?_|(apply Wp.obind;first|exact x1|exact y1))|((with_reducible refine y8 ?_ ?_;apply decide_eq_true);omega)|rw[z8])
   refine y11 Mx l6 rfl o6 fun h2 M2=>?_;clear Mx;have Mx:=M2;clear M2;refine y1a Mx rfl ?_;refine y14 Mx l6 ?_;obtain⟨h3,e3,kb3,kn3,t3⟩:=e N u h2 hN (by omega) Mx.tch Mx.at2.1 Mx.at3.1;refine Wp.callN e3 ?_;clear e3;have M3:=y3c (xs:=[_,_]) Mx t3 kb3 kn3;clear Mx;have Mx:=M3;clear M3;simp only[List.cons_append,List.nil_append] at Mx
   repeat(first|((with_reducible refine Wp.chk ?_ ?_);focus ((repeat' (first|(with_reducible exact rfl)|(with_reducible apply z1a4)|((with_reducible apply Mem.rr1 Mx);kernel_rfl;kernel_rfl)));done))|(with_reducible apply Wp.obind;exact z13 _))
   obtain⟨h5,e5,kb5,kn5,t5⟩:=behind_r (d:=d) (v:=.int .i64 ((z51 t N u).2.2:Nat)) hr.n hp hr.p hn hne Mx.at2.1 Mx.at2.2.1 Mx.at3.1 Mx.at3.2.1;refine Wp.callN e5 ?_;clear e5;have M5:=y3c (xs:=[_,_]) Mx t5 kb5 kn5;clear Mx;have Mx:=M5;clear M5;simp only[List.cons_append,List.nil_append] at Mx
   (((with_reducible apply Wp.obind);(with_reducible exact z13 _)))
   refine y1c Mx rfl rfl rfl fun h6 M6=>?_
   repeat(((with_reducible refine yf ?_ ?_ ?_);omega;omega))
   rw[show (i:Int)+1=((i+1:Nat):Int) by omega];have:=hr.u;exact z473 g r hT hK hn hKn hne m ks (i+1) f h6 _ _ _ k d2 (by omega) (hr.n.follow hr.p.f) (z42e hp hr.p) (by omega) M6.pop hk
theorem z33e{k83:AHeap→R}{h4:AHeap}(g:GrowT z17 6 K kv T)(r:RowsAt h T)(hT:∀y∈T,y.1 ∉ [b,nb])(hK:∀c∈K,c.length=6∧c.all AV.one=true)(hKn:K.length<1000000):∀(l:List (List AV)) (ks:List Nd) (i f:Nat) (H:AHeap) (p:Pc) (N:Nt) (u:Nat),KidP n d b nb h l ks→K.drop i=l→K.length - i<f→NtOk N→PcOk p→u+szL ks<1000000→
  Mem [b,nb] h H ((h4.next,TPc,pcC p)::(b,TBl,[.ptr nb 0,.int .i64 (u:Int)])::(nb,TNet,netC N)::ys)→
  (∀H',Mem [b,nb] h H' ((h4.next,TPc,pcC (altN ks p N u).1)::(b,TBl,[.ptr nb 0,.int .i64 ((altN ks p N u).2.2:Nat)])::(nb,TNet,netC (altN ks p N u).2.1)::ys)→Wp (k83 H') Q)→Wp (z7d (world n d) (.ptr b 0) h4 kv (K.length:Int) k83 f (i:Int) H) Q
 |_,_,_,0,_,_,_,_,_,_,hf,_,_,_,_,_=>by omega
 |l,ks,i,f+1,H,p,N,u,kk,d1,hf,hN,hp,hu,Mx,hk=>by
  rw[z127];unfold z98
  cases kk with
  |nil=>
   have:=z186 d1
   repeat(first|(with_reducible refine Wp.lett ?_)|((with_reducible refine y7 ?_ ?_;apply decide_eq_false);omega))
   exact hk H Mx
  |cons e k=>
   rename_i c t m ks;rw[szL] at hu;obtain⟨hi1,hc,d2⟩:=z149 d1;have rH:=r.keepS Mx.tch hT;obtain⟨p1,_,x1,y1⟩:=(z13f g rH).row hi1;obtain⟨l6,o6⟩:=hK _ (List.getElem_mem hi1);rw[hc] at y1 l6 o6;have hr:=zd2 t (u:=u) hN;rw[altN] at hk
   repeat(first|((with_reducible apply yc Mx);clear Mx;intro _ Mx)|(with_reducible first|refine Wp.lett ?_|(apply Wp.obind;first|exact x1|exact y1))|((with_reducible refine y8 ?_ ?_;apply decide_eq_true);omega)|rw[z8])
   refine y11 Mx l6 rfl o6 fun h2 M2=>?_;clear Mx;have Mx:=M2;clear M2;refine y14 Mx l6 ?_;obtain⟨h3,e3,kb3,kn3,t3⟩:=e N u h2 hN (by omega) Mx.tch Mx.at2.1 Mx.at3.1;refine Wp.callN e3 ?_;clear e3;have M3:=y3c (xs:=[_,_]) Mx t3 kb3 kn3;clear Mx;have Mx:=M3;clear M3;simp only[List.cons_append,List.nil_append] at Mx;have o1:=z12f hp.f hr.p.f;have o2:=z12f hp.l hr.p.l;have el:(i:Int)+1=((i+1:Nat):Int):=by omega
   have hu2:=hr.u;have fin:=fun h6 M6=>z33e g r hT hK hKn m ks (i+1) f h6 _ _ _ k d2 (by omega) hr.n (altP_ok hp hr.p) (by omega) M6 hk;unfold pcC at Mx
   repeat(first|(with_reducible apply Wp.obind;exact z6 _)|((with_reducible apply y11 Mx);rfl;rfl;(rfl);clear Mx;intro _ Mx)|((with_reducible apply y1d Mx);rfl)|((with_reducible apply yc Mx);clear Mx;intro _ Mx)|(with_reducible first|refine y5 (fun _ _=>?_)|(apply Wp.obind;exact z13 _))|rw[z8])
   cases hpe:p.empty with
   |true=>
    rw[hpe] at Mx
    repeat(first|(with_reducible apply Wp.obind;exact z5 _ _)|((with_reducible apply y28 Mx);rfl)|((with_reducible apply y1d Mx);rfl)|((with_reducible apply y29 Mx);rfl;rfl;(rfl);clear Mx;intro _ Mx)|((with_reducible refine yf ?_ ?_ ?_);omega;omega)|(with_reducible first|refine Wp.lett ?_|(refine y8 ?_ ?_;rfl)|refine yd (by assumption) ?_))
    rw[o1,o2] at Mx;rw[el];refine fin _ ?_;unfold altP pcC;rw[hpe];exact Mx.pop.pop
   |false=>
    rw[hpe] at Mx
    repeat(first|(with_reducible apply Wp.obind;first|exact z5 _ _|exact z6 _)|((with_reducible apply y28 Mx);rfl)|((with_reducible apply y1d Mx);rfl)|((with_reducible apply y29 Mx);rfl;rfl;(rfl);clear Mx;intro _ Mx)|((with_reducible refine yf ?_ ?_ ?_);omega;omega)|(with_reducible first|refine Wp.lett ?_|(refine y7 ?_ ?_;rfl)|refine yd (by assumption) ?_))
    rw[o1,o2] at Mx;rw[el];refine fin _ ?_;unfold altP pcC;rw[hpe];exact Mx.pop.pop
end
theorem perm5{α:Type}(a b c d e:α):[a,d,e,b,c].Perm [a,b,c,d,e]:=List.Perm.cons a (List.perm_append_comm (l₁:=[d,e]) (l₂:=[b,c]))
def z341(b nb:Nat)(H:AHeap)(x:Pc×Nt×Nat)(r:ARes)(h':AHeap):Prop:=r=.ret (.agg (pcC x.1))∧RowH h' b TBl [.ptr nb 0,.int .i64 (x.2.2:Nat)]∧RowH h' nb TNet (netC x.2.1)∧Tch [b,nb] H h'
section
variable {n d b nb u:Nat}{a b' c' d':Nat}{h H:AHeap}{N:Nt}{kv1:AV}{kc1:List (List AV)}{T01:List z9e}{ks:List Nd}{c1:List AV}{t1:Nd}
theorem piece_set(hw:WordsOk [a,b',c',d'])(hn:256<n)(hu:u<1000000)(hN:NtOk N)(hne:b≠nb)(kb:RowH H b TBl [.ptr nb 0,.int .i64 (u:Int)])(hbH:b<H.next)(kn:RowH H nb TNet (netC N))(hnH:nb<H.next)(hv:kv1.one=true):Wp (z1e (world n (d+2)) n (.ptr b 0) (z25 2 [a,b',c',d'] kv1) H) (z341 b nb H (⟨false,bitN u,bitN u⟩,N.place [a,b',c',d'] (bitN u),u+1)):=by
 unfold z1e;have Mx:=y42 kb hbH kn hnH hne;have o1:=z57 (op:=2) (w:=[a,b',c',d']) hv;refine y16 Mx o1 fun h1 M1=>?_;clear Mx;have Mx:=M1;clear M1
 repeat(first|(with_reducible apply Wp.obind;first|exact z5 _ _|exact ze _ _ _)|((with_reducible apply y36 Mx);rfl)|((with_reducible apply yc Mx);clear Mx;intro _ Mx)|(with_reducible refine Wp.lett ?_)|((with_reducible refine y8 ?_ ?_;apply z28);omega)|rw[z8])
 have e1:z15 _ 4 (.ptr H.next (0+1))=some (z1c [a,b',c',d']):=Mx.at1.1.ld (o:=0+1) (n:=4) (by show 5≤6;decide)
 repeat(((with_reducible apply Wp.obind);(with_reducible exact e1)))
 obtain⟨h3,e3,kb3,kn3,t3⟩:=place_r (n:=n) (d:=d+1) hN hw hn hu hne Mx.at2.1 Mx.at2.2.1 Mx.at3.1 Mx.at3.2.1;refine Wp.callN e3 ?_;clear e3 e1;have M3:=y3c (xs:=[_,_]) Mx t3 kb3 kn3;clear Mx;have Mx:=M3;clear M3;simp only[List.cons_append,List.nil_append] at Mx
 repeat(first|((with_reducible apply y14 Mx);rfl)|((with_reducible apply y11 Mx);rfl;rfl;(rfl);clear Mx;intro _ Mx)|(with_reducible apply Wp.obind;exact z13 _))
 exact Wp.ret ⟨rfl,Mx.at2.1,Mx.at3.1,Mx.tch⟩
theorem piece_cat(g1:GrowT z17 6 kc1 kv1 T01)(rH:RowsAt H T01)(hT0:∀y∈T01,y.1 ∉ [b,nb])(hK:∀c∈kc1,c.length=6∧c.all AV.one=true)(hkl:kc1.length<1000000)(hkn:kc1.length<n)(hn:64<n)(hu:u+szL ks<1000000)(kk:KidP n (d+2) b nb H kc1 ks)(hN:NtOk N)(hne:b≠nb)(kb:RowH H b TBl [.ptr nb 0,.int .i64 (u:Int)])(hbH:b<H.next)(kn:RowH H nb TNet (netC N))(hnH:nb<H.next)(hv:kv1.one=true):Wp (z1e (world n (d+2)) n (.ptr b 0) (z25 3 [a,b',c',d'] kv1) H) (z341 b nb H (catN ks noPc N u)):=by
 unfold z1e;have Mx:=y42 kb hbH kn hnH hne;have o1:=z57 (op:=3) (w:=[a,b',c',d']) hv;refine y16 Mx o1 fun h1 M1=>?_;clear Mx;have Mx:=M1;clear M1;have len1:=g1.len
 repeat(first|(with_reducible apply Wp.obind;first|exact z5 _ _|exact ze _ _ _)|((with_reducible apply y11 Mx);rfl;rfl;(rfl);clear Mx;intro _ Mx)|((with_reducible apply y36 Mx);rfl)|((with_reducible apply y1d Mx);rfl)|((with_reducible apply yc Mx);clear Mx;intro _ Mx)|(with_reducible first|refine y12 (fun _ _=>?_)|refine Wp.lett ?_|(apply Wp.obind;exact len1))|((with_reducible refine y8 ?_ ?_;apply z28);omega)|((with_reducible refine y7 ?_ ?_;apply z2e);omega)|rw[z8])
 rename_i kx ekx;have Mp:=Mx.perm (perm5 _ _ _ _ _);refine z473 (h:=H) (ys:=[_,_]) g1 rH hT0 hK (by omega) (by omega) hne kc1 ks 0 n _ noPc N u kk List.drop_zero (by omega) hN z2cd (by omega) Mp fun H' M'=>?_;clear Mx Mp;have Mx:=M';clear M';rw[ekx]
 repeat(first|((with_reducible apply y14 Mx);rfl)|((with_reducible apply y3e Mx);rfl)|((with_reducible apply y49 Mx);rfl;rfl;(rfl);clear Mx;intro _ Mx)|rw[z8])
 exact Wp.ret ⟨rfl,Mx.at1.1,Mx.at2.1,Mx.tch⟩
theorem piece_alt(g1:GrowT z17 6 kc1 kv1 T01)(rH:RowsAt H T01)(hT0:∀y∈T01,y.1 ∉ [b,nb])(hK:∀c∈kc1,c.length=6∧c.all AV.one=true)(hkl:kc1.length<1000000)(hkn:kc1.length<n)(hu:u+szL ks<1000000)(kk:KidP n (d+2) b nb H kc1 ks)(hN:NtOk N)(hne:b≠nb)(kb:RowH H b TBl [.ptr nb 0,.int .i64 (u:Int)])(hbH:b<H.next)(kn:RowH H nb TNet (netC N))(hnH:nb<H.next)(hv:kv1.one=true):Wp (z1e (world n (d+2)) n (.ptr b 0) (z25 4 [a,b',c',d'] kv1) H) (z341 b nb H (altN ks ⟨false,0,0⟩ N u)):=by
 unfold z1e;have Mx:=y42 kb hbH kn hnH hne;have o1:=z57 (op:=4) (w:=[a,b',c',d']) hv;refine y16 Mx o1 fun h1 M1=>?_;clear Mx;have Mx:=M1;clear M1;have len1:=g1.len
 repeat(first|(with_reducible apply Wp.obind;first|exact z5 _ _|exact ze _ _ _)|((with_reducible apply y11 Mx);rfl;rfl;(rfl);clear Mx;intro _ Mx)|((with_reducible apply y36 Mx);rfl)|((with_reducible apply y1d Mx);rfl)|((with_reducible apply yc Mx);clear Mx;intro _ Mx)|(with_reducible first|refine y12 (fun _ _=>?_)|refine Wp.lett ?_|(apply Wp.obind;exact len1))|((with_reducible refine y8 ?_ ?_;apply z28);omega)|((with_reducible refine y7 ?_ ?_;apply z2e);omega)|rw[z8])
 rename_i kx ekx;have Mp:=Mx.perm (perm5 _ _ _ _ _);refine z33e (h:=H) (ys:=[_,_]) g1 rH hT0 hK (by omega) kc1 ks 0 n _ ⟨false,0,0⟩ N u kk List.drop_zero (by omega) hN ⟨by decide,by decide⟩ (by omega) Mp fun H' M'=>?_;clear Mx Mp;have Mx:=M';clear M';rw[ekx]
 repeat(first|((with_reducible apply y14 Mx);rfl)|((with_reducible apply y3e Mx);rfl)|((with_reducible apply y49 Mx);rfl;rfl;(rfl);clear Mx;intro _ Mx)|rw[z8])
 exact Wp.ret ⟨rfl,Mx.at1.1,Mx.at2.1,Mx.tch⟩
theorem z499(g1:GrowT z17 6 [c1] kv1 T01)(rH:RowsAt H T01)(hT0:∀y∈T01,y.1 ∉ [b,nb])(hn:64<n)(hu:u+t1.sz<1000000)(e:PieceW n (d+2) b nb H c1 t1)(hN:NtOk N)(hne:b≠nb)(kb:RowH H b TBl [.ptr nb 0,.int .i64 (u:Int)])(hbH:b<H.next)(kn:RowH H nb TNet (netC N))(hnH:nb<H.next)(hv:kv1.one=true):Wp (z1e (world n (d+2)) n (.ptr b 0) (z25 5 [a,b',c',d'] kv1) H) (z341 b nb H (⟨(z51 t1 N u).1.empty||decide (5=5),(z51 t1 N u).1.first,(z51 t1 N u).1.last⟩,(z51 t1 N u).2.1.follow (z51 t1 N u).1.last (z51 t1 N u).1.first,(z51 t1 N u).2.2)):=by
 unfold z1e;have Mx:=y42 kb hbH kn hnH hne;have o1:=z57 (op:=5) (w:=[a,b',c',d']) hv;refine y16 Mx o1 fun h1 M1=>?_;clear Mx;have Mx:=M1;clear M1;have hr:=zd2 t1 (u:=u) hN
 repeat(first|(with_reducible apply Wp.obind;first|exact z5 _ _|exact ze _ _ _)|((with_reducible apply y36 Mx);rfl)|((with_reducible apply yc Mx);clear Mx;intro _ Mx)|(with_reducible first|refine y5 (fun _ _=>?_)|refine Wp.lett ?_)|((with_reducible refine y8 ?_ ?_);first|(with_reducible rfl)|((with_reducible apply z28);omega))|((with_reducible refine y7 ?_ ?_;apply z2e);omega)|(with_reducible refine yd (by assumption) ?_)|rw[z8])
 obtain⟨p1,_,x1,y1⟩:=(z13f g1 (rH.keepS Mx.tch hT0)).row (i:=0) (by simp);have x2:ze8 6 kv1 0=some (.ptr p1 (0*6)):=x1;have y2:z15 _ 6 (.ptr p1 (0*6))=some c1:=y1;clear x1 y1
 repeat(((with_reducible apply Wp.obind);(with_reducible first|exact x2|exact y2)))
 obtain⟨h3,e3,kb3,kn3,t3⟩:=e N u _ hN (by omega) Mx.tch Mx.at2.1 Mx.at3.1;refine Wp.callN e3 ?_;clear e3 x2 y2;have M3:=y3c (xs:=[_,_]) Mx t3 kb3 kn3;clear Mx;have Mx:=M3;clear M3;simp only[List.cons_append,List.nil_append] at Mx
 repeat(first|(with_reducible apply Wp.obind;exact z5 _ _)|((with_reducible apply y28 Mx);rfl)|((with_reducible apply y11 Mx);rfl;rfl;(rfl);clear Mx;intro _ Mx)|((with_reducible apply yc Mx);clear Mx;intro _ Mx)|(with_reducible apply Wp.obind;exact z13 _)|rw[z8])
 obtain⟨h5,e5,kn5,t5⟩:=z379 (n:=n) (d:=d+1) hr.n hr.p.f hr.p.l (by omega) hne Mx.at3.1 Mx.at3.2.1 Mx.at4.1;refine Wp.callN e5 ?_;clear e5;have M5:=y1b (xs:=[_,_,_,_]) Mx t5 kn5;clear Mx;have Mx:=M5;clear M5;simp only[List.cons_append,List.nil_append] at Mx;cases he:(z51 t1 N u).1.empty with
 |true=>
  unfold pcC at Mx;rw[he] at Mx
  repeat(first|(with_reducible apply Wp.obind;exact z6 _)|((with_reducible apply y28 Mx);rfl)|((with_reducible apply y14 Mx);rfl)|((with_reducible apply y37 Mx);exact Nat.le_of_ble_eq_true rfl;rfl;clear Mx;intro _ Mx)|((with_reducible apply y1a Mx);rfl)|((with_reducible apply y1c Mx);rfl;rfl;(rfl);clear Mx;intro _ Mx)|(with_reducible first|refine y5 (fun _ _=>?_)|(refine y8 ?_ ?_;rfl)|refine yd (by assumption) ?_))
  exact Wp.ret ⟨by unfold pcC;rfl,Mx.at3.1,Mx.at4.1,Mx.tch⟩
 |false=>
  unfold pcC at Mx;rw[he] at Mx
  repeat(first|(with_reducible apply Wp.obind;first|exact z5 _ _|exact z6 _|exact ze _ _ _)|((with_reducible apply y28 Mx);rfl)|((with_reducible apply y14 Mx);rfl)|((with_reducible apply y37 Mx);exact Nat.le_of_ble_eq_true rfl;rfl;clear Mx;intro _ Mx)|((with_reducible apply y1a Mx);rfl)|((with_reducible apply y1c Mx);rfl;rfl;(rfl);clear Mx;intro _ Mx)|((with_reducible apply y1d Mx);rfl)|(with_reducible first|refine y5 (fun _ _=>?_)|refine Wp.lett ?_|(refine y7 ?_ ?_;rfl)|refine yd (by assumption) ?_))
  exact Wp.ret ⟨by unfold pcC;rfl,Mx.at3.1,Mx.at4.1,Mx.tch⟩
theorem z49a(g1:GrowT z17 6 [c1] kv1 T01)(rH:RowsAt H T01)(hT0:∀y∈T01,y.1 ∉ [b,nb])(hn:64<n)(hu:u+t1.sz<1000000)(e:PieceW n (d+2) b nb H c1 t1)(hN:NtOk N)(hne:b≠nb)(kb:RowH H b TBl [.ptr nb 0,.int .i64 (u:Int)])(hbH:b<H.next)(kn:RowH H nb TNet (netC N))(hnH:nb<H.next)(hv:kv1.one=true):Wp (z1e (world n (d+2)) n (.ptr b 0) (z25 6 [a,b',c',d'] kv1) H) (z341 b nb H (⟨(z51 t1 N u).1.empty||decide (6=5),(z51 t1 N u).1.first,(z51 t1 N u).1.last⟩,(z51 t1 N u).2.1.follow (z51 t1 N u).1.last (z51 t1 N u).1.first,(z51 t1 N u).2.2)):=by
 unfold z1e;have Mx:=y42 kb hbH kn hnH hne;have o1:=z57 (op:=6) (w:=[a,b',c',d']) hv;refine y16 Mx o1 fun h1 M1=>?_;clear Mx;have Mx:=M1;clear M1;have hr:=zd2 t1 (u:=u) hN
 repeat(first|(with_reducible apply Wp.obind;first|exact z5 _ _|exact ze _ _ _)|((with_reducible apply y36 Mx);rfl)|((with_reducible apply yc Mx);clear Mx;intro _ Mx)|(with_reducible first|refine y5 (fun _ _=>?_)|refine Wp.lett ?_)|((with_reducible refine y8 ?_ ?_;apply z28);omega)|((with_reducible refine y7 ?_ ?_;apply z2e);omega)|(with_reducible refine yd (by assumption) ?_)|rw[z8])
 obtain⟨p1,_,x1,y1⟩:=(z13f g1 (rH.keepS Mx.tch hT0)).row (i:=0) (by simp);have x2:ze8 6 kv1 0=some (.ptr p1 (0*6)):=x1;have y2:z15 _ 6 (.ptr p1 (0*6))=some c1:=y1;clear x1 y1
 repeat(((with_reducible apply Wp.obind);(with_reducible first|exact x2|exact y2)))
 obtain⟨h3,e3,kb3,kn3,t3⟩:=e N u _ hN (by omega) Mx.tch Mx.at2.1 Mx.at3.1;refine Wp.callN e3 ?_;clear e3 x2 y2;have M3:=y3c (xs:=[_,_]) Mx t3 kb3 kn3;clear Mx;have Mx:=M3;clear M3;simp only[List.cons_append,List.nil_append] at Mx
 repeat(first|(with_reducible apply Wp.obind;exact z5 _ _)|((with_reducible apply y28 Mx);rfl)|((with_reducible apply y11 Mx);rfl;rfl;(rfl);clear Mx;intro _ Mx)|((with_reducible apply yc Mx);clear Mx;intro _ Mx)|(with_reducible apply Wp.obind;exact z13 _)|rw[z8])
 obtain⟨h5,e5,kn5,t5⟩:=z379 (n:=n) (d:=d+1) hr.n hr.p.f hr.p.l (by omega) hne Mx.at3.1 Mx.at3.2.1 Mx.at4.1;refine Wp.callN e5 ?_;clear e5;have M5:=y1b (xs:=[_,_,_,_]) Mx t5 kn5;clear Mx;have Mx:=M5;clear M5;simp only[List.cons_append,List.nil_append] at Mx;cases he:(z51 t1 N u).1.empty with
 |true=>
  unfold pcC at Mx;rw[he] at Mx
  repeat(first|(with_reducible apply Wp.obind;exact z6 _)|((with_reducible apply y28 Mx);rfl)|((with_reducible apply y14 Mx);rfl)|((with_reducible apply y37 Mx);exact Nat.le_of_ble_eq_true rfl;rfl;clear Mx;intro _ Mx)|((with_reducible apply y1a Mx);rfl)|((with_reducible apply y1c Mx);rfl;rfl;(rfl);clear Mx;intro _ Mx)|(with_reducible first|refine y5 (fun _ _=>?_)|(refine y8 ?_ ?_;rfl)|refine yd (by assumption) ?_))
  exact Wp.ret ⟨by unfold pcC;rfl,Mx.at3.1,Mx.at4.1,Mx.tch⟩
 |false=>
  unfold pcC at Mx;rw[he] at Mx
  repeat(first|(with_reducible apply Wp.obind;first|exact z5 _ _|exact z6 _|exact ze _ _ _)|((with_reducible apply y28 Mx);rfl)|((with_reducible apply y14 Mx);rfl)|((with_reducible apply y37 Mx);exact Nat.le_of_ble_eq_true rfl;rfl;clear Mx;intro _ Mx)|((with_reducible apply y1a Mx);rfl)|((with_reducible apply y1c Mx);rfl;rfl;(rfl);clear Mx;intro _ Mx)|((with_reducible apply y1d Mx);rfl)|(with_reducible first|refine y5 (fun _ _=>?_)|refine Wp.lett ?_|(refine y7 ?_ ?_;rfl)|refine yd (by assumption) ?_))
  exact Wp.ret ⟨by unfold pcC;rfl,Mx.at3.1,Mx.at4.1,Mx.tch⟩
theorem piece_opt(g1:GrowT z17 6 [c1] kv1 T01)(rH:RowsAt H T01)(hT0:∀y∈T01,y.1 ∉ [b,nb])(hu:u+t1.sz<1000000)(e:PieceW n (d+2) b nb H c1 t1)(hN:NtOk N)(hne:b≠nb)(kb:RowH H b TBl [.ptr nb 0,.int .i64 (u:Int)])(hbH:b<H.next)(kn:RowH H nb TNet (netC N))(hnH:nb<H.next)(hv:kv1.one=true):Wp (z1e (world n (d+2)) n (.ptr b 0) (z25 7 [a,b',c',d'] kv1) H) (z341 b nb H (⟨true,(z51 t1 N u).1.first,(z51 t1 N u).1.last⟩,(z51 t1 N u).2.1,(z51 t1 N u).2.2)):=by
 unfold z1e;have Mx:=y42 kb hbH kn hnH hne;have o1:=z57 (op:=7) (w:=[a,b',c',d']) hv;refine y16 Mx o1 fun h1 M1=>?_;clear Mx;have Mx:=M1;clear M1;have hr:=zd2 t1 (u:=u) hN
 repeat(first|(with_reducible apply Wp.obind;first|exact z5 _ _|exact ze _ _ _)|((with_reducible apply y36 Mx);rfl)|((with_reducible apply yc Mx);clear Mx;intro _ Mx)|(with_reducible first|refine y5 (fun _ _=>?_)|refine Wp.lett ?_)|((with_reducible refine y8 ?_ ?_;apply z28);omega)|((with_reducible refine y7 ?_ ?_;apply z2e);omega)|(with_reducible refine yd (by assumption) ?_)|rw[z8])
 obtain⟨p1,_,x1,y1⟩:=(z13f g1 (rH.keepS Mx.tch hT0)).row (i:=0) (by simp);have x2:ze8 6 kv1 0=some (.ptr p1 (0*6)):=x1;have y2:z15 _ 6 (.ptr p1 (0*6))=some c1:=y1;clear x1 y1
 repeat(((with_reducible apply Wp.obind);(with_reducible first|exact x2|exact y2)))
 obtain⟨h3,e3,kb3,kn3,t3⟩:=e N u _ hN (by omega) Mx.tch Mx.at2.1 Mx.at3.1;refine Wp.callN e3 ?_;clear e3 x2 y2;have M3:=y3c (xs:=[_,_]) Mx t3 kb3 kn3;clear Mx;have Mx:=M3;clear M3;simp only[List.cons_append,List.nil_append] at Mx
 repeat(first|((with_reducible apply y14 Mx);rfl)|((with_reducible apply y37 Mx);exact Nat.le_of_ble_eq_true rfl;rfl;clear Mx;intro _ Mx)|((with_reducible apply y11 Mx);rfl;rfl;(rfl);clear Mx;intro _ Mx)|((with_reducible apply y1a Mx);rfl)|((with_reducible apply y1c Mx);rfl;rfl;(rfl);clear Mx;intro _ Mx)|((with_reducible apply yc Mx);clear Mx;intro _ Mx)|(with_reducible apply Wp.obind;exact z13 _)|rw[z8])
 exact Wp.ret ⟨rfl,Mx.at3.1,Mx.at4.1,Mx.tch⟩
end
open Go.RowKit Abs
mutual
theorem z44d:∀(t:Nd) {c:List AV} {T:List z9e} {D n b nb:Nat} {h:AHeap},z2fe t→NodeT t c T→RowsAt h T→(∀y∈T,y.1 ∉ [b,nb])→b<h.next→nb<h.next→b≠nb→t.sz+2≤D→t.sz+256<n→t.sz<1000000→PieceW n D b nb h c t
 | .mk op w ks,_,_,0,n,b,nb,h,_,_,_,_,_,_,_,hD,_,_=>by omega
 | .mk op w ks,c,T,D+1,n,b,nb,h,⟨on1,on2⟩,k1,r1,hT,hb,hnb,hne,hD,hn,hz=>by
  intro N u H hN hu tH kb kn;rw[Nd.sz] at hD hn hz hu;have hsl:=z2b2 ks
  cases k1 with
  |mk hw g1 ks1=>
   rename_i kc1 kv1 T01 T11;have hT0:∀y∈T01,y.1 ∉ [b,nb]:=fun y hy=>hT y (List.mem_append_left _ hy);have hT1:∀y∈T11,y.1 ∉ [b,nb]:=fun y hy=>hT y (List.mem_append_right _ hy);have hl1:=ks1.len;have hK:∀c∈kc1,c.length=6∧c.all AV.one=true:=g1.1;obtain⟨a,b',c',d',rfl⟩:=z2a8 hw;have hbH:=Nat.lt_of_lt_of_le hb tH.1;have hnH:=Nat.lt_of_lt_of_le hnb tH.1;obtain⟨d,rfl⟩:∃d,D=d+2:=⟨D - 2,by omega⟩;have hv:=g1.one.1;have rH:=(r1.left.keepS tH hT0);have kk:=(z3b9 ks (D:=d+2) (n:=n) on2 ks1 r1.right hT1 hb hnb hne (by omega) (by omega) (by omega)).keep tH;apply Wp.ex;rw[z214,z51]
   by_cases h2:op=2
   ·subst h2
    rw[if_pos rfl];exact(piece_set hw (by omega) (by omega) hN hne kb hbH kn hnH hv).mono fun _ _ k=>k
   rw[if_neg h2]
   by_cases h3:op=3
   ·subst h3
    rw[if_pos rfl];exact(piece_cat g1 rH hT0 hK (by omega) (by omega) (by omega) (by omega) kk hN hne kb hbH kn hnH hv).mono fun _ _ k=>k
   rw[if_neg h3]
   by_cases h4:op=4
   ·subst h4
    rw[if_pos rfl];exact(piece_alt g1 rH hT0 hK (by omega) (by omega) (by omega) kk hN hne kb hbH kn hnH hv).mono fun _ _ k=>k
   rw[if_neg h4]
   by_cases h5:5≤op∧op≤7
   ·have hone := on1.2 h5.1
    match ks,hone,kk,hl1 with
    |[t1],_,kk,hl1=>
     match kc1,hl1,kk,g1 with
     |[c1],_,.cons e _,g1=>
      rw[szL] at hu hsl;simp only[z1cc]
      by_cases h56:op=5∨op=6
      ·rw [if_pos h56]
       rcases h56 with rfl|rfl
       ·exact(z499 g1 rH hT0 (by omega) (by omega) e hN hne kb hbH kn hnH hv).mono fun _ _ k=>k
       ·exact(z49a g1 rH hT0 (by omega) (by omega) e hN hne kb hbH kn hnH hv).mono fun _ _ k=>k
      rw[if_neg h56]
      obtain rfl:op=7:=by omega
      rw[if_pos rfl];exact(piece_opt g1 rH hT0 (by omega) e hN hne kb hbH kn hnH hv).mono fun _ _ k=>k
   ·rw [if_neg (by omega), if_neg (by omega)]
    unfold z1e;have Mx:=y42 kb hbH kn hnH hne;have o1:=z57 (op:=op) (w:=[a,b',c',d']) hv;refine y16 Mx o1 fun h1 M1=>?_;clear Mx;have Mx:=M1;clear M1
    repeat(first|(with_reducible apply Wp.obind;first|exact z5 _ _|exact ze _ _ _)|((with_reducible apply y14 Mx);rfl)|((with_reducible apply y11 Mx);rfl;rfl;(rfl);clear Mx;intro _ Mx)|((with_reducible apply y36 Mx);rfl)|((with_reducible apply yc Mx);clear Mx;intro _ Mx)|(with_reducible first|refine y5 (fun _ _=>?_)|refine Wp.lett ?_)|((with_reducible refine y7 ?_ ?_;apply z2e);omega)|(with_reducible refine yd (by assumption) ?_)|rw[z8])
    exact Wp.ret ⟨rfl,Mx.at2.1,Mx.at3.1,Mx.tch⟩
theorem z3b9:∀(ks:List Nd) {k1:List (List AV)} {T:List z9e} {D n b nb:Nat} {h:AHeap},oneL ks→KidsT ks k1 T→RowsAt h T→(∀y∈T,y.1 ∉ [b,nb])→b<h.next→nb<h.next→b≠nb→szL ks+2≤D→szL ks+256<n→szL ks<1000000→KidP n D b nb h k1 ks
 |[],_,_,_,_,_,_,_,_,k1,_,_,_,_,_,_,_,_=>by
  cases k1
  exact .nil
 |t::ks,_,_,D,n,b,nb,h,⟨p1,p2⟩,k1,r1,hT,hb,hnb,hne,hD,hn,hN=>by
  rw[szL] at hD hn hN
  cases k1 with
  |cons a1 b1=>exact .cons (z44d t p1 a1 r1.left (fun y hy=>hT y (List.mem_append_left _ hy)) hb hnb hne (by omega) (by omega) (by omega)) (z3b9 ks p2 b1 r1.right (fun y hy=>hT y (List.mem_append_right _ hy)) hb hnb hne (by omega) (by omega) (by omega))
end
section
variable {u:z11}{i:Nat}
theorem atom_esc{c:Nat}{r:Res}(h1:at? u i=some 92)(h2:at? u (i+1)=some c)(k:AtomP u i r):r=.ok (z294 c,i+2):=by
 cases k with
 |none h=>rw[h1] at h;cases h
 |open_bad h m=>rw[h1] at h;cases h
 |open_end h m n=>rw[h1] at h;cases h
 |group h m n=>rw[h1] at h;cases h
 |any h=>rw[h1] at h;cases h
 |set_bad h m=>rw[h1] at h;cases h
 |set h m=>rw[h1] at h;cases h
 |sl_end h n=>rw[h2] at n;cases n
 |sl h n=>
  rw[h2] at n
  cases n
  rfl
 |bad h b=>
  rw[h1] at h;cases h;unfold zd8 at b;omega
 |one h b n=>
  rw[h1] at h;cases h;exact absurd rfl n.2.2.2
end
section
variable {u:z11}
theorem loopP_one{w:List Nat}{j:Nat}{r:Except Nat (List Nat×Nat)}(a:LoopP u w j r):∀{r':Except Nat (List Nat×Nat)},LoopP u w j r'→r=r':=by
 induction a with
 |done n=>
  intro r' b
  cases b with
  |done _=>rfl
  |bad n' _=>exact absurd n n'
  |more n' _ _=>exact absurd n n'
 |bad n h=>
  intro r' b
  cases b with
  |done n'=>exact absurd n' n
  |bad n' h'=>
   rw[h] at h';cases h';rfl
  |more n' h' _=>
   rw[h] at h';cases h'
 |more n h m ih=>
  intro r' b
  cases b with
  |done n'=>exact absurd n' n
  |bad n' h'=>
   rw[h] at h';cases h'
  |more n' h' m'=>
   rw[h] at h';cases h';exact ih m'
theorem z29d{i:Nat}{r r':Except Nat (List Nat×Nat)}(a:SetP u i r)(b:SetP u i r'):r=r':=by
 cases a with
 |bad h=>
  cases b with
  |bad h'=>
   rw[h] at h';cases h';rfl
  |set h' _=>
   rw[h] at h';cases h'
 |set h m=>
  cases b with
  |bad h'=>
   rw[h] at h';cases h'
  |set h' m'=>
   rw[h] at h';cases h';rw[loopP_one m m']
mutual
theorem ze2:∀{l:List Nd} {i:Nat} {r r':Res},AltP u l i r→AltP u l i r'→r=r'
 |_,_,_,_,.bad h,.bad h'=>by
  cases z137 h h'
  rfl
 |_,_,_,_,.bad h,.last h' _=>by cases z137 h h'
 |_,_,_,_,.bad h,.more h' _ _=>by cases z137 h h'
 |_,_,_,_,.last h _,.bad h'=>by cases z137 h h'
 |_,_,_,_,.last h _,.last h' _=>by
  cases z137 h h'
  rfl
 |_,_,_,_,.last h n,.more h' n' _=>by
  cases z137 h h'
  exact absurd n' n
 |_,_,_,_,.more h _ _,.bad h'=>by cases z137 h h'
 |_,_,_,_,.more h n _,.last h' n'=>by
  cases z137 h h'
  exact absurd n n'
 |_,_,_,_,.more h n m,.more h' n' m'=>by
  cases z137 h h'
  exact ze2 m m'
termination_by structural _ _ _ _ a=>a
theorem z137:∀{l:List Nd} {i:Nat} {r r':Res},RowP u l i r→RowP u l i r'→r=r'
 |_,_,_,_,.stop s,.stop _=>rfl
 |_,_,_,_,.stop s,.bad s' _=>absurd s s'
 |_,_,_,_,.stop s,.more s' _ _=>absurd s s'
 |_,_,_,_,.bad s _,.stop s'=>absurd s' s
 |_,_,_,_,.bad _ h,.bad _ h'=>by
  cases z23e h h'
  rfl
 |_,_,_,_,.bad _ h,.more _ h' _=>by cases z23e h h'
 |_,_,_,_,.more s _ _,.stop s'=>absurd s' s
 |_,_,_,_,.more _ h _,.bad _ h'=>by cases z23e h h'
 |_,_,_,_,.more _ h m,.more _ h' m'=>by
  cases z23e h h'
  exact z137 m m'
termination_by structural _ _ _ _ a=>a
theorem z23e:∀{i:Nat} {r r':Res},PartP u i r→PartP u i r'→r=r'
 |_,_,_,.bad h,.bad h'=>by
  cases z123 h h'
  rfl
 |_,_,_,.bad h,.bare h' _=>by cases z123 h h'
 |_,_,_,.bad h,.sign h' _=>by cases z123 h h'
 |_,_,_,.bare h _,.bad h'=>by cases z123 h h'
 |_,_,_,.bare h _,.bare h' _=>by
  cases z123 h h'
  rfl
 |_,_,_,.bare h n,.sign h' n'=>by
  cases z123 h h'
  exact absurd n n'
 |_,_,_,.sign h _,.bad h'=>by cases z123 h h'
 |_,_,_,.sign h n,.bare h' n'=>by
  cases z123 h h'
  exact absurd n' n
 |_,_,_,.sign h _,.sign h' _=>by
  cases z123 h h'
  rfl
termination_by structural _ _ _ a=>a
theorem z123:∀{i:Nat} {r r':Res},AtomP u i r→AtomP u i r'→r=r'
 |_,_,_,.none h,b=>by
  cases b<;>first|rfl|(rename_i h' _;rw[h] at h';cases h';done)|(rename_i h' _ _;rw[h] at h';cases h';done)|(rename_i h';rw[h] at h';cases h';done)
 |_,_,_,.open_bad h m,b=>by
  cases b with
  |open_bad h' m'=>
   cases ze2 m m'
   rfl
  |open_end h' m' n'=>cases ze2 m m'
  |group h' m' n'=>cases ze2 m m'
  |none h'=>rw[h] at h';cases h'
  |any h'=>rw[h] at h';cases h'
  |set_bad h' _=>rw[h] at h';cases h'
  |set h' _=>rw[h] at h';cases h'
  |sl_end h' _=>rw[h] at h';cases h'
  |sl h' _=>rw[h] at h';cases h'
  |bad h' b'=>rw[h] at h';cases h';unfold zd8 at b';omega
  |one h' _ n'=>rw[h] at h';cases h';exact absurd rfl n'.1
 |_,_,_,.open_end h m n,b=>by
  cases b with
  |open_bad h' m'=>cases ze2 m m'
  |open_end h' m' n'=>
   cases ze2 m m'
   rfl
  |group h' m' n'=>
   cases ze2 m m'
   exact absurd n' n
  |none h'=>rw[h] at h';cases h'
  |any h'=>rw[h] at h';cases h'
  |set_bad h' _=>rw[h] at h';cases h'
  |set h' _=>rw[h] at h';cases h'
  |sl_end h' _=>rw[h] at h';cases h'
  |sl h' _=>rw[h] at h';cases h'
  |bad h' b'=>rw[h] at h';cases h';unfold zd8 at b';omega
  |one h' _ n'=>rw[h] at h';cases h';exact absurd rfl n'.1
 |_,_,_,.group h m n,b=>by
  cases b with
  |open_bad h' m'=>cases ze2 m m'
  |open_end h' m' n'=>
   cases ze2 m m'
   exact absurd n n'
  |group h' m' n'=>
   cases ze2 m m'
   rfl
  |none h'=>rw[h] at h';cases h'
  |any h'=>rw[h] at h';cases h'
  |set_bad h' _=>rw[h] at h';cases h'
  |set h' _=>rw[h] at h';cases h'
  |sl_end h' _=>rw[h] at h';cases h'
  |sl h' _=>rw[h] at h';cases h'
  |bad h' b'=>rw[h] at h';cases h';unfold zd8 at b';omega
  |one h' _ n'=>rw[h] at h';cases h';exact absurd rfl n'.1
 |_,_,_,.any h,b=>by
  cases b with
  |any h'=>rfl
  |none h'=>rw[h] at h';cases h'
  |open_bad h' _=>rw[h] at h';cases h'
  |open_end h' _ _=>rw[h] at h';cases h'
  |group h' _ _=>rw[h] at h';cases h'
  |set_bad h' _=>rw[h] at h';cases h'
  |set h' _=>rw[h] at h';cases h'
  |sl_end h' _=>rw[h] at h';cases h'
  |sl h' _=>rw[h] at h';cases h'
  |bad h' b'=>rw[h] at h';cases h';unfold zd8 at b';omega
  |one h' _ n'=>rw[h] at h';cases h';exact absurd rfl n'.2.1
 |_,_,_,.set_bad h m,b=>by
  cases b with
  |set_bad h' m'=>cases z29d m m';rfl
  |set h' m'=>cases z29d m m'
  |any h'=>rw[h] at h';cases h'
  |none h'=>rw[h] at h';cases h'
  |open_bad h' _=>rw[h] at h';cases h'
  |open_end h' _ _=>rw[h] at h';cases h'
  |group h' _ _=>rw[h] at h';cases h'
  |sl_end h' _=>rw[h] at h';cases h'
  |sl h' _=>rw[h] at h';cases h'
  |bad h' b'=>rw[h] at h';cases h';unfold zd8 at b';omega
  |one h' _ n'=>rw[h] at h';cases h';exact absurd rfl n'.2.2.1
 |_,_,_,.set h m,b=>by
  cases b with
  |set_bad h' m'=>cases z29d m m'
  |set h' m'=>cases z29d m m';rfl
  |any h'=>rw[h] at h';cases h'
  |none h'=>rw[h] at h';cases h'
  |open_bad h' _=>rw[h] at h';cases h'
  |open_end h' _ _=>rw[h] at h';cases h'
  |group h' _ _=>rw[h] at h';cases h'
  |sl_end h' _=>rw[h] at h';cases h'
  |sl h' _=>rw[h] at h';cases h'
  |bad h' b'=>rw[h] at h';cases h';unfold zd8 at b';omega
  |one h' _ n'=>rw[h] at h';cases h';exact absurd rfl n'.2.2.1
 |_,_,_,.sl_end h m,b=>by
  cases b with
  |sl_end h' _=>rfl
  |sl h' m'=>rw[m] at m';cases m'
  |set_bad h' m'=>rw[h] at h';cases h'
  |set h' m'=>rw[h] at h';cases h'
  |any h'=>rw[h] at h';cases h'
  |none h'=>rw[h] at h';cases h'
  |open_bad h' _=>rw[h] at h';cases h'
  |open_end h' _ _=>rw[h] at h';cases h'
  |group h' _ _=>rw[h] at h';cases h'
  |bad h' b'=>rw[h] at h';cases h';unfold zd8 at b';omega
  |one h' _ n'=>rw[h] at h';cases h';exact absurd rfl n'.2.2.2
 |_,_,_,.sl h m,b=>(atom_esc h m b).symm
 |_,_,_,.bad h b1,b=>by
  unfold zd8 at b1
  cases b with
  |bad h' b'=>rfl
  |one h' b' n'=>rw[h] at h';cases h';exact absurd b1 b'
  |sl_end h' _=>rw[h] at h';cases h';omega
  |sl h' m'=>rw[h] at h';cases h';omega
  |set_bad h' m'=>rw[h] at h';cases h';omega
  |set h' m'=>rw[h] at h';cases h';omega
  |any h'=>rw[h] at h';cases h';omega
  |none _=>rfl
  |open_bad h' _=>rw[h] at h';cases h';omega
  |open_end h' _ _=>rw[h] at h';cases h';omega
  |group h' _ _=>rw[h] at h';cases h';omega
 |_,_,_,.one h b1 n,b=>by
  obtain⟨n1,n2,n3,n4⟩:=n
  cases b with
  |bad h' b'=>rw[h] at h';cases h';exact absurd b' b1
  |one h' b' n'=>rw[h] at h';cases h';rfl
  |sl_end h' _=>rw[h] at h';cases h';exact absurd rfl n4
  |sl h' m'=>rw[h] at h';cases h';exact absurd rfl n4
  |set_bad h' m'=>rw[h] at h';cases h';exact absurd rfl n3
  |set h' m'=>rw[h] at h';cases h';exact absurd rfl n3
  |any h'=>rw[h] at h';cases h';exact absurd rfl n2
  |none h'=>rw[h] at h';cases h'
  |open_bad h' _=>rw[h] at h';cases h';exact absurd rfl n1
  |open_end h' _ _=>rw[h] at h';cases h';exact absurd rfl n1
  |group h' _ _=>rw[h] at h';cases h';exact absurd rfl n1
termination_by structural _ _ _ a=>a
end
end
section
variable {a u:z11}{k:Nat}
theorem z2d6{w w':List Nat}{i j:Nat}(h:z94 a w i=.ok (w',j)):i<j∧j≤a.length:=by
 unfold z94 at h
 split at h
 ·cases h
 ·rename_i c j' h1
  obtain⟨_,h2,h3⟩:=z13e h1
  split at h
  ·split at h
   ·cases h
   ·rename_i e k h4
    obtain⟨_,h5,h6⟩:=z13e h4
    split at h
    ·cases h
    ·cases h
     exact⟨by omega,h6⟩
  ·cases h
   exact⟨h2,h3⟩
theorem z3ca{w:List Nat}{j:Nat}{r:Except Nat (List Nat×Nat)}(x:LoopP a w j r):j≤a.length→(∀w' j',r=.ok (w',j')→j<j'∧j'≤a.length)∧∀e,r=.error e→e≤a.length:=by
 induction x with
 |done n=>
  intro hj;obtain⟨hp,_⟩:=at?_some n;refine⟨fun w' j' e=>?_,fun e he=>by cases he⟩
  cases e
  exact⟨by omega,by omega⟩
 |bad n h=>
  intro hj;refine⟨fun w' j' e=>(by cases e),fun e he=>?_⟩;cases he;exact z1b5 hj h
 |more n h m ih=>
  intro hj;obtain⟨b1,b2⟩:=z2d6 h;obtain⟨c1,c2⟩:=ih b2;refine⟨fun w' j' e=>?_,c2⟩;obtain⟨d1,d2⟩:=c1 w' j' e;exact⟨by omega,d2⟩
theorem z29e{i:Nat}(hi:i≤a.length):i≤setB a i∧setB a i≤a.length:=by
 unfold setB
 by_cases h94:at? a i=some 94
 ·obtain ⟨hp, _⟩ := at?_some h94
  rw[if_pos h94];omega
 ·rw [if_neg h94]
  omega
theorem setP_bad{i e:Nat}(x:SetP a i (.error e))(hi:i≤a.length):e≤a.length:=by
 obtain⟨s1,s2⟩:=z29e hi
 generalize hr:Except.error e=r at x
 cases x with
 |bad h=>
  cases hr;exact z1b5 s2 h
 |set h m=>
  rename_i w j r;obtain⟨b1,b2⟩:=z2d6 h
  cases r with
  |error e'=>
   cases hr;exact(z3ca m b2).2 _ rfl
  |ok wj=>cases hr
theorem z34f{i j:Nat}{w:List Nat}(x:SetP a i (.ok (w,j)))(hi:i≤a.length):i<j∧j≤a.length:=by
 obtain⟨s1,s2⟩:=z29e hi
 generalize hr:Except.ok (w,j)=r at x
 cases x with
 |bad h=>cases hr
 |set h m=>
  rename_i w' j' r;obtain⟨b1,b2⟩:=z2d6 h
  cases r with
  |error e'=>cases hr
  |ok wj=>
   obtain⟨w2,j2⟩:=wj;cases hr;obtain⟨c1,c2⟩:=(z3ca m b2).1 _ _ rfl;exact⟨by omega,c2⟩
mutual
theorem z140:∀{l:List Nd} {i:Nat} {r:Res},AltP a l i r→i≤a.length→Bnd a i r
 |_,_,_,.bad h,hi=>z10b h hi
 |_,_,_,.last h _,hi=>by
  obtain⟨b1,b2⟩:=z10b h hi;exact⟨b1,b2⟩
 |_,_,r,.more h n m,hi=>by
  have h1:=z10b h hi;obtain⟨hp,_⟩:=at?_some n;have h2:=z140 m (by omega)
  cases r with
  |error e=>exact h2
  |ok tj=>
   obtain⟨b1,b2⟩:=h1;obtain⟨b3,b4⟩:=h2;exact⟨by omega,b4⟩
termination_by structural _ _ _ x=>x
theorem z10b:∀{l:List Nd} {i:Nat} {r:Res},RowP a l i r→i≤a.length→Bnd a i r
 |_,_,_,.stop _,hi=>⟨Nat.le_refl _,hi⟩
 |_,_,_,.bad _ h,hi=>z19a h hi
 |_,_,r,.more _ h m,hi=>by
  obtain⟨b1,b2⟩:=z19a h hi;have h2:=z10b m b2
  cases r with
  |error e=>exact h2
  |ok tj=>
   obtain⟨b3,b4⟩:=h2;exact⟨by omega,b4⟩
termination_by structural _ _ _ x=>x
theorem z19a:∀{i:Nat} {r:Res},PartP a i r→i≤a.length→Bnd1 a i r
 |_,_,.bad h,hi=>z124 h hi
 |_,_,.bare h _,hi=>z124 h hi
 |_,_,.sign (j:=j) h n,hi=>by
  obtain⟨b1,b2⟩:=z124 h hi
  have:j<a.length:=by
   rcases Nat.lt_or_ge j a.length with h|h
   ·exact h
   ·exfalso
    apply n;unfold signAt;rw[at?_ge h]
  exact⟨by omega,by omega⟩
termination_by structural _ _ x=>x
theorem z124:∀{i:Nat} {r:Res},AtomP a i r→i≤a.length→Bnd1 a i r
 |_,_,.none _,hi=>hi
 |_,_,.open_bad h m,hi=>by
  obtain⟨hp,_⟩:=at?_some h;exact z140 m (by omega)
 |_,_,.open_end h m _,hi=>by
  obtain⟨hp,_⟩:=at?_some h;exact(z140 m (by omega)).2
 |_,_,.group h m n,hi=>by
  obtain⟨hp,_⟩:=at?_some h;obtain⟨b1,_⟩:=z140 m (by omega);obtain⟨hp2,_⟩:=at?_some n;exact⟨by omega,by omega⟩
 |_,_,.any h,hi=>by
  obtain⟨hp,_⟩:=at?_some h;exact⟨by omega,by omega⟩
 |_,_,.set_bad h m,hi=>by
  obtain⟨hp,_⟩:=at?_some h;exact setP_bad m (by omega)
 |_,_,.set h m,hi=>by
  obtain⟨hp,_⟩:=at?_some h;obtain⟨b1,b2⟩:=z34f m (by omega);exact⟨by omega,b2⟩
 |_,_,.sl_end h _,hi=>by
  obtain⟨hp,_⟩:=at?_some h;exact hp
 |_,_,.sl h n,hi=>by
  obtain⟨hp,_⟩:=at?_some n;exact⟨by omega,by omega⟩
 |_,_,.bad h _,hi=>hi
 |_,_,.one h _ _,hi=>by
  obtain⟨hp,_⟩:=at?_some h;exact⟨by omega,by omega⟩
termination_by structural _ _ x=>x
end
end
theorem z231:∀(l:List Nd) (t:Nd),szL (l++[t])=szL l+t.sz+1
 |[],t=>by
  simp only[List.nil_append,szL];omega
 |k::l,t=>by
  rw[List.cons_append,szL,z231 l t,szL];omega
theorem z372(op:Nat):∀l:List Nd,(z1a0 op l).sz≤szL l+1
 |[]=>Nat.le_add_left 1 _
 |[t]=>by
  rw[szL,szL];show t.sz≤_;omega
 |_::_::_=>Nat.le_refl _
section
variable {a:z11}
mutual
theorem z434:∀{l:List Nd} {i:Nat} {r:Res},AltP a l i r→∀t j,r=.ok (t,j)→i≤a.length→t.sz≤szL l+6*(j - i)+(if l=[] then 1 else 3)
 |_,_,_,.bad h,t,j,e,hi=>by cases e
 |l,_,_,.last h n,t,j,e,hi=>by
  have h1:=z3fe h _ _ rfl hi;rw[szL] at h1
  cases e
  by_cases hl:l=[]
  ·subst hl
   rw[if_pos rfl];show Nd.sz _≤_;simp only[List.nil_append,z1a0,szL];omega
  ·rw [if_neg hl]
   refine Nat.le_trans (z372 4 _) ?_;rw[z231];omega
 |l,_,_,.more h n m,t,j,e,hi=>by
  obtain⟨hp,_⟩:=at?_some n;have h1:=z3fe h _ _ rfl hi;obtain⟨c1,_⟩:=z10b h hi;rw[szL] at h1;have h2:=z434 m t j e (by omega);have hb:=z140 m (by omega);subst e;obtain⟨c2,_⟩:=hb;rw[if_neg (by simp),z231] at h2
  split<;>omega
termination_by structural _ _ _ x=>x
theorem z3fe:∀{l:List Nd} {i:Nat} {r:Res},RowP a l i r→∀t j,r=.ok (t,j)→i≤a.length→t.sz≤szL l+6*(j - i)+1
 |l,_,_,.stop h,t,j,e,hi=>by
  cases e
  have:=z372 3 l;omega
 |_,_,_,.bad _ h,t,j,e,hi=>by cases e
 |l,_,_,.more n h m,t,j,e,hi=>by
  obtain⟨b1,b2⟩:=z19a h hi;have h1:=partP_sz h _ _ rfl hi;have h2:=z3fe m t j e b2;have hb:=z10b m b2;subst e;obtain⟨c2,_⟩:=hb;rw[z231] at h2;omega
termination_by structural _ _ _ x=>x
theorem partP_sz:∀{i:Nat} {r:Res},PartP a i r→∀t j,r=.ok (t,j)→i≤a.length→t.sz+3≤6*(j - i)
 |_,_,.bad h,t,j,e,hi=>by cases e
 |_,_,.bare h n,t,j,e,hi=>z47b h t j e hi
 |_,_,.sign h n,t,j,e,hi=>by
  obtain⟨b1,b2⟩:=z124 h hi;have h1:=z47b h _ _ rfl hi
  cases e
  simp only[z30b,Nd.sz,szL];omega
termination_by structural _ _ x=>x
theorem z47b:∀{i:Nat} {r:Res},AtomP a i r→∀t j,r=.ok (t,j)→i≤a.length→t.sz+3≤6*(j - i)
 |_,_,.none _,t,j,e,hi=>by cases e
 |_,_,.open_bad h m,t,j,e,hi=>by cases e
 |_,_,.open_end h m _,t,j,e,hi=>by cases e
 |_,_,.group h m n,t,j,e,hi=>by
  obtain⟨hp,_⟩:=at?_some h;have h1:=z434 m _ _ rfl (by omega);obtain⟨b1,_⟩:=z140 m (by omega);rw[if_pos rfl,szL] at h1
  cases e
  omega
 |_,_,.any h,t,j,e,hi=>by
  cases e
  simp only[anyN,Nd.sz,szL];omega
 |_,_,.set_bad h m,t,j,e,hi=>by cases e
 |_,_,.set h m,t,j,e,hi=>by
  obtain⟨hp,_⟩:=at?_some h;obtain⟨b1,b2⟩:=z34f m (by omega)
  cases e
  simp only[Nd.sz,szL];omega
 |_,_,.sl_end h _,t,j,e,hi=>by cases e
 |_,_,.sl h n,t,j,e,hi=>by
  cases e
  simp only[z294,Nd.sz,szL];omega
 |_,_,.bad h _,t,j,e,hi=>by cases e
 |_,_,.one h b n,t,j,e,hi=>by
  cases e
  simp only[z294,Nd.sz,szL];omega
termination_by structural _ _ x=>x
end
theorem altP_small{t:Nd}{j:Nat}(h:AltP a [] 0 (.ok (t,j))):t.sz≤6*a.length+1:=by
 have h1:=z434 h t j rfl (Nat.zero_le _);obtain⟨_,b2⟩:=z140 h (Nat.zero_le _);rw[if_pos rfl,szL] at h1;omega
end
section
variable {u:z11}
theorem flat_sz{F:Nat→Res}{u:z11}(hF:∀i t j,F i=.ok (t,j)→t.sz≤3∧i<j){l:List Nd}{i:Nat}{r:Res}(k:FlatP F u l i r):∀t,z29a r=.ok t→t.sz≤szL l+4*(u.length - i)+1:=by
 induction k with
 |stop s=>
  intro t e
  cases e
  refine Nat.le_trans (z372 3 _) ?_;omega
 |bad s h=>
  intro t e
  cases e
 |more s h m ih=>
  intro t e;have h1:=ih t e;obtain⟨h2,h3⟩:=hF _ _ _ h;rw[z231] at h1;omega
theorem partL_sz(u:z11):∀i t j,z23f u i=.ok (t,j)→t.sz≤3∧i<j:=by
 intro i t j h;unfold z23f at h
 split at h
 ·cases h
 ·cases h
  exact⟨by simp[z294,Nd.sz,szL],by omega⟩
theorem partG_sz(u:z11):∀i t j,z21b u i=.ok (t,j)→t.sz≤3∧i<j:=by
 intro i t j h;unfold z21b at h
 split at h
 ·cases h
 split at h
 ·cases h
  exact⟨by simp[z30b,anyN,Nd.sz,szL],by omega⟩
 split at h
 ·cases h
  exact⟨by simp[anyN,Nd.sz,szL],by omega⟩
 split at h
 ·split at h
  ·cases h
  ·cases h
   exact⟨by simp[z294,Nd.sz,szL],by omega⟩
 ·cases h
  exact⟨by simp[z294,Nd.sz,szL],by omega⟩
theorem z1a8{k:Int}{u:z11}{t:Nd}(h:TreeP u k (.ok t)):t.sz≤6*u.length+1:=by
 generalize hr:Except.ok t=r at h
 cases h with
 |lit a=>
  have:=flat_sz (partL_sz u) a t hr.symm;rw[szL] at this;omega
 |glob a=>
  have:=flat_sz (partG_sz u) a t hr.symm;rw[szL] at this;omega
 |re_bad a=>cases hr
 |re_end a ne=>cases hr
 |re a=>
  cases hr;exact altP_small a
end
theorem z1e0:∀{l:List Nd} {t:Nd},oneL l→z2fe t→oneL (l++[t])
 |[],_,_,h=>⟨h,trivial⟩
 |_::_,_,⟨a,b⟩,h=>⟨a,z1e0 b h⟩
theorem z2cb{op:Nat}(ho:op<5):∀{l:List Nd},oneL l→z2fe (z1a0 op l)
 |[],_=>⟨⟨fun h=>absurd h (by decide),fun h=>absurd h (by decide)⟩,trivial⟩
 |[_],⟨h,_⟩=>h
 |_::_::_,h=>⟨⟨fun _=>List.cons_ne_nil _ _,fun hh=>absurd hh (by omega)⟩,h⟩
theorem z242(c:Nat):z2fe (z294 c):=⟨⟨fun h=>absurd h (by decide),fun h=>absurd h (by decide)⟩,trivial⟩
theorem z368:z2fe anyN:=⟨⟨fun h=>absurd h (by decide),fun h=>absurd h (by decide)⟩,trivial⟩
theorem z3c1{op:Nat}{t:Nd}(h:z2fe t):z2fe (z30b op [t]):=⟨⟨fun _=>List.cons_ne_nil _ _,fun _=>rfl⟩,h,trivial⟩
section
variable {u:z11}
mutual
theorem z2f9:∀{l:List Nd} {i:Nat} {r:Res},AltP u l i r→oneL l→∀t j,r=.ok (t,j)→z2fe t
 |_,_,_,.bad _,_,_,_,e=>by cases e
 |_,_,_,.last h _,hl,t,j,e=>by
  cases e
  exact z2cb (by decide) (z1e0 hl (z2be h trivial _ _ rfl))
 |_,_,_,.more h _ m,hl,t,j,e=>z2f9 m (z1e0 hl (z2be h trivial _ _ rfl)) t j e
termination_by structural _ _ _ x=>x
theorem z2be:∀{l:List Nd} {i:Nat} {r:Res},RowP u l i r→oneL l→∀t j,r=.ok (t,j)→z2fe t
 |_,_,_,.stop _,hl,t,j,e=>by
  cases e
  exact z2cb (by decide) hl
 |_,_,_,.bad _ _,_,_,_,e=>by cases e
 |_,_,_,.more _ h m,hl,t,j,e=>z2be m (z1e0 hl (z49d h _ _ rfl)) t j e
termination_by structural _ _ _ x=>x
theorem z49d:∀{i:Nat} {r:Res},PartP u i r→∀t j,r=.ok (t,j)→z2fe t
 |_,_,.bad _,_,_,e=>by cases e
 |_,_,.bare h _,t,j,e=>z33d h t j e
 |_,_,.sign h _,t,j,e=>by
  cases e
  exact z3c1 (z33d h _ _ rfl)
termination_by structural _ _ x=>x
theorem z33d:∀{i:Nat} {r:Res},AtomP u i r→∀t j,r=.ok (t,j)→z2fe t
 |_,_,.none _,_,_,e=>by cases e
 |_,_,.open_bad _ _,_,_,e=>by cases e
 |_,_,.open_end _ _ _,_,_,e=>by cases e
 |_,_,.group _ m _,t,j,e=>by
  cases e
  exact z2f9 m trivial _ _ rfl
 |_,_,.any _,t,j,e=>by
  cases e
  exact z368
 |_,_,.set_bad _ _,_,_,e=>by cases e
 |_,_,.set _ _,t,j,e=>by
  cases e
  exact⟨⟨fun h=>absurd h (by decide),fun h=>absurd h (by decide)⟩,trivial⟩
 |_,_,.sl_end _ _,_,_,e=>by cases e
 |_,_,.sl _ _,t,j,e=>by
  cases e
  exact z242 _
 |_,_,.bad _ _,_,_,e=>by cases e
 |_,_,.one _ _ _,t,j,e=>by
  cases e
  exact z242 _
termination_by structural _ _ x=>x
end
theorem z3d8{F:Nat→Res}(hF:∀i t j,F i=.ok (t,j)→z2fe t){l:List Nd}{i:Nat}{r:Res}(k:FlatP F u l i r):oneL l→∀t,z29a r=.ok t→z2fe t:=by
 induction k with
 |stop s=>
  intro hl t e
  cases e
  exact z2cb (by decide) hl
 |bad s h=>
  intro _ t e
  cases e
 |more s h m ih=>
  intro hl t e;exact ih (z1e0 hl (hF _ _ _ h)) t e
theorem z25e{k:Int}{t:Nd}(h:TreeP u k (.ok t)):z2fe t:=by
 generalize hr:Except.ok t=r at h
 cases h with
 |lit a=>
  refine z3d8 (F:=z23f u) (fun i t j h=>?_) a trivial t hr.symm;unfold z23f at h
  split at h
  ·cases h
  ·cases h
   exact z242 _
 |glob a=>
  refine z3d8 (F:=z21b u) (fun i t j h=>?_) a trivial t hr.symm;unfold z21b at h
  split at h
  ·cases h
  split at h
  ·cases h
   exact z3c1 z368
  split at h
  ·cases h
   exact z368
  split at h
  ·split at h
   ·cases h
   ·cases h
    exact z242 _
  ·cases h
   exact z242 _
 |re_bad a=>cases hr
 |re_end a ne=>cases hr
 |re a=>
  cases hr;exact z2f9 a trivial _ _ rfl
end
def zeroNet:Nt:=⟨false,0,0,List.replicate 64 0,List.replicate 256 0⟩
theorem z25a:NtOk zeroNet:=⟨List.length_replicate,List.length_replicate,by decide,by decide,fun x hx=>by rw[List.eq_of_mem_replicate hx];decide,fun x hx=>by rw[List.eq_of_mem_replicate hx];decide⟩
def z2c1(t:Nd):Nt:={(z51 t zeroNet 0).2.1 with empty:=(z51 t zeroNet 0).1.empty,first:=(z51 t zeroNet 0).1.first,last:=(z51 t zeroNet 0).1.last}
def z7f(t:Nd):Nt:=(z2c1 t).trim
theorem z1ae(t:Nd):NtOk (z2c1 t):=by
 have:=zd2 t (u:=0) z25a;exact⟨this.n.fl,this.n.tl,this.p.f,this.p.l,this.n.fs,this.n.ts⟩
theorem z2a1(t:Nd):NtOk (z7f t):=(z1ae t).trim
theorem z2bc{S:List Nat}{h0 h:AHeap}{rs T:List z9e}(M:Abs.Mem S h0 h rs)(hs:∀y∈T,y∈rs):RowsAt h T:=fun y hy=>⟨(M.row y (hs y hy)).1,(M.row y (hs y hy)).2.1⟩
theorem apart2{S:List Nat}{h0 h:AHeap}{x y:z9e}{rs T:List z9e}(M:Abs.Mem S h0 h (x::y::rs))(hs:∀z∈T,z∈rs):(∀z∈T,z.1 ∉ [x.1,y.1])∧x.1≠y.1:=by
 have ap:=M.apart;rw[List.map_cons,List.map_cons,List.nodup_cons,List.nodup_cons] at ap;refine⟨fun z hz hm=>?_,fun e=>ap.1 (by rw[e];exact List.mem_cons_self)⟩
 rcases List.mem_cons.1 hm with e|hm
 ·exact ap.1 (List.mem_cons_of_mem _ (by rw[←e];exact List.mem_map_of_mem (hs z hz)))
 ·exact ap.2.1 (by rw[←List.mem_singleton.1 hm];exact List.mem_map_of_mem (hs z hz))
set_option maxRecDepth 100000 in
theorem bldBl(b o:Nat):z27a Tryd.prog TBl [(0,.ptr b o)]=some [.ptr b o,.int .i64 0]:=by kernel_rfl
section
variable {n d:Nat}{h:AHeap}{u:z11}{k:Int}{t:Nd}{c:List AV}{T:List z9e}{H:AHeap}{e1 q:Int}
theorem of_bad(he:e1≠0)(ht:∀h,z7a z17 h.ex=false→world n d 24 [.agg [.int .i64 k,z12 u]] h=some (.ret (.tup [.agg (z25 0 zeroW .nsl),.agg [.int .i64 e1,.int .i64 q]]),h))(hx:z7a z17 h.ex=false):
  world n (d+1) 12 [.agg [.int .i64 k,z12 u]] h=some (.ret (.tup [.nilp,.int .i64 2]),h):=by
 apply Wp.eq;rw[z439];refine Wp.gc ?_
 suffices hK:Wp (z210 (world n d) n [.int .i64 k,z12 u] h) fun r h'=>r=.ret (.tup [.nilp,.int .i64 2])∧Tch [] h h' from hK.mono fun r h' ⟨e,t⟩=>⟨t.above,by rw[e];rfl,e,rfl⟩
 unfold z210;have Mx:=Mem.nil [] h;have hxN:∀{h1:AHeap} {rs:List z9e},Abs.Mem [] h h1 rs→z7a z17 h1.ex=false:=fun M=>by rw[M.ex];exact hx
 repeat(first|((with_reducible apply y14 Mx);rfl)|((with_reducible apply y16 Mx);(rfl);clear Mx;intro _ Mx))
 refine Wp.callN (ht _ (hxN Mx)) ?_
 repeat(first|(with_reducible apply Wp.obind;exact z5 _ _)|((with_reducible apply y28 Mx);rfl)|((with_reducible apply y11 Mx);rfl;rfl;(rfl);clear Mx;intro _ Mx)|((with_reducible apply y1c Mx);rfl;rfl;(rfl);clear Mx;intro _ Mx)|((with_reducible apply yc Mx);clear Mx;intro _ Mx)|(with_reducible first|refine Wp.lett ?_|(apply Wp.obind;first|exact z13 _|exact za0 _ _|exact z9f _ _ _))|((with_reducible refine y8 ?_ ?_;apply zab);omega)|rw[z8])
 exact Wp.ret ⟨rfl,Mx.tch⟩
set_option maxRecDepth 100000 in
theorem of_ok(hk1:z2fe t)(hsz:t.sz<100000)(hd:t.sz+2≤d)(hn:18446744073709551620<n)(ht:∀h,z7a z17 h.ex=false→∃c T h',world n d 24 [.agg [.int .i64 k,z12 u]] h=some (.ret (.tup [.agg c,.agg [.int .i64 0,.int .i64 0]]),h')∧NodeT t c T∧Abs.Mem [] h h' T)(hx:z7a z17 h.ex=false):
  ∃nb h',world n (d+1) 12 [.agg [.int .i64 k,z12 u]] h=some (.ret (.tup [.ptr nb 0,.int .i64 0]),h')∧Abs.Mem [] h h' [(nb,TNet,netC (z7f t))]:=by
 suffices hK:Wp (gcR h (z210 (world n d) n [.int .i64 k,z12 u] h)) fun r h'=>∃nb,r=.ret (.tup [.ptr nb 0,.int .i64 0])∧Abs.Mem [] h h' [(nb,TNet,netC (z7f t))] by
  obtain⟨_,h',e,nb,rfl,k2⟩:=hK;rw[←z439] at e;exact⟨nb,h',e,k2⟩
 suffices hK:Wp (z210 (world n d) n [.int .i64 k,z12 u] h) fun r h'=>∃nb,r=.ret (.tup [.ptr nb 0,.int .i64 0])∧Abs.Mem [] h h' [(nb,TNet,netC (z7f t))] by
  obtain⟨_,h',e,nb,rfl,k2⟩:=hK;refine y4a ⟨_,h',e,⟨nb,rfl,k2⟩,fun _ hl=>?_⟩
  have h1:AV.lo h.next (.ptr nb 0)=true:=by
   have:(AV.lo h.next (.ptr nb 0)&&(AV.lo h.next (.int .i64 0)&&y1e h.next []))=true:=hl;rw[Bool.and_eq_true] at this;exact this.1
  have h2:=k2.at0.2.2.resolve_left (by simp);have h3:nb<h.next:=by simpa [AV.lo] using h1
  omega
 unfold z210;have Mx:=Mem.nil [] h;have hxN:∀{h1:AHeap} {rs:List z9e},Abs.Mem [] h h1 rs→z7a z17 h1.ex=false:=fun M=>by rw[M.ex];exact hx
 repeat(first|((with_reducible apply y14 Mx);rfl)|((with_reducible apply y16 Mx);(rfl);clear Mx;intro _ Mx))
 obtain⟨c,T,H1,e1,kt1,M1⟩:=ht _ (hxN Mx);refine Wp.callN e1 ?_;have M2:=y31 (xs:=[]) (ys:=[]) Mx M1;clear Mx M1;have Mx:=M2;clear M2;simp only[List.nil_append] at Mx
 repeat(first|((with_reducible apply yc Mx);clear Mx;intro _ Mx)|(with_reducible apply Wp.obind;first|exact z13 _|exact za0 _ _|exact z9f _ _ _)|rw[z8])
 refine y1c Mx kt1.len rfl kt1.one fun h3 M3=>?_;clear Mx;have Mx:=M3;clear M3
 repeat(first|(with_reducible apply Wp.obind;exact z5 _ _)|((with_reducible apply y28 Mx);rfl)|((with_reducible apply y11 Mx);rfl;rfl;(rfl);clear Mx;intro _ Mx)|((with_reducible apply y16 Mx);(rfl);clear Mx;intro _ Mx)|(with_reducible refine Wp.lett ?_)|((with_reducible refine y7 ?_ ?_;apply zc9);omega)|rw[z8])
 have M4:Abs.Mem [] h _ ((_,TNet,netC zeroNet)::_):=Mx;clear Mx;have Mx:=M4;clear M4
 repeat(first|((with_reducible apply y11 Mx);rfl;rfl;(rfl);clear Mx;intro _ Mx)|((with_reducible apply yc Mx);clear Mx;intro _ Mx)|(with_reducible apply Wp.obind;exact bldBl _ _))
 refine y3e Mx kt1.len ?_;obtain⟨d2,rfl⟩:∃d2,d=d2+2:=⟨d - 2,by omega⟩;obtain⟨hTn,hne⟩:=apart2 (T:=T) Mx (fun y hy=>by simp[hy]);have rT:=z2bc (T:=T) Mx (fun y hy=>by simp[hy]);obtain⟨h5,e5,kb5,kn5,t5⟩:=z44d t (n:=n) (D:=d2+2) hk1 kt1 rT hTn Mx.at0.2.1 Mx.at1.2.1 hne hd (by omega) (by omega) zeroNet 0 _ z25a (by omega) (Tch.refl _ _) Mx.at0.1 Mx.at1.1;refine Wp.callN e5 ?_;clear e5 hTn rT hne;have M5:=y3c (xs:=[]) Mx t5 kb5 kn5;clear Mx;have Mx:=M5;clear M5;simp only[List.nil_append] at Mx
 repeat(first|(with_reducible apply Wp.obind;first|exact z5 _ _|exact z6 _|exact z3e _ _|exact ze _ _ _)|((with_reducible apply y28 Mx);rfl)|((with_reducible apply y11 Mx);rfl;rfl;(rfl);clear Mx;intro _ Mx)|((with_reducible apply y36 Mx);rfl)|((with_reducible apply Wp.ms2 Mx);exact Nat.le_of_ble_eq_true rfl;rfl;clear Mx;intro _ Mx)|((with_reducible apply yc Mx);clear Mx;intro _ Mx)|((with_reducible refine Wp.chk ?_ ?_);focus ((repeat' (first|(with_reducible exact rfl)|(with_reducible apply z1a4)|((with_reducible apply Mem.re0 Mx);kernel_rfl;rfl)));done))|(with_reducible apply Wp.obind;exact z13 _)|rw[z8])
 obtain⟨h6,e6,kn6,t6⟩:=trim_r (n:=n) (d:=d2) (z1ae t) hn (h:=_) Mx.at2.1;refine Wp.callN e6 ?_;have M6:=y1b (xs:=[_,_]) Mx t6 kn6;clear Mx;have Mx:=M6;clear M6;simp only[List.cons_append,List.nil_append] at Mx
 repeat(((with_reducible apply y36 Mx);rfl))
 refine Wp.ret ⟨_,rfl,fun x hx=>Mx.row x ?_,List.nodup_cons.2 ⟨List.not_mem_nil,List.nodup_nil⟩,Mx.tch⟩;rw[List.mem_singleton] at hx;rw[hx];exact List.mem_cons_of_mem _ (List.mem_cons_of_mem _ List.mem_cons_self)
end
end Go.Proofs.YtakhljnkmbpmpaaDoor
