/- What matchCopies_proved stands on, part 8 of 10. -/
import Derived.Test.YtpdepoeanhibiaaDoorCc7
namespace Go.Proofs.YtpdepoeanhibiaaDoor
open Go.RowKit Abs
section
variable {n d b p q i:Nat}{h h0:AHeap}{u:z11}{Q:ARes→AHeap→Prop}{S:List Nat}{xs rs T:List ze7}{w:List Nat}{x:R}{t:Nd}{c:List AV}{v:AV}
theorem z2a2(c:List AV)(q:Nat)(hl:c.length=6)(h1:c.all AV.one=true):GrowT z28 6 [c] (.sl q 0 1 6) [(q,z28,c)]:=by
 refine⟨fun r hr=>?_,.inr ⟨by simp,q,rfl,by simp⟩⟩;rw[List.mem_singleton] at hr;subst hr;exact⟨hl,h1⟩
theorem signed(kt:NodeT t c T)(op q:Nat):NodeT (z389 op [t]) (z96 op z9b (.sl q 0 1 6)) ([(q,z28,c)]++(T++[])):=
 NodeT.mk z89 (z2a2 c q kt.len kt.one) (KidsT.cons kt .nil)
theorem z213{c:Nat}(h:at? u i=some c):z1c8 u i=z412 c:=by
 unfold z1c8;rw[h]
theorem z3ce(h42:at? u i≠some 42)(h43:at? u i≠some 43)(h63:at? u i≠some 63):z1c8 u i=0:=by
 unfold z1c8;cases hc:at? u i with
 |none=>rfl
 |some c=>
  show z412 c=0;rw[hc] at h42 h43 h63;unfold z412
  split
  ·exact absurd rfl h42
  ·exact absurd rfl h43
  ·exact absurd rfl h63
  ·rfl
theorem z358{r0 n1:Nat}{l:List AV}{D op:Nat}(M:Mem S h0 h ((b,TRd,rdP u p)::(n1,z28,c)::(r0,z28,l)::T))(hl:l.length=6)(kt:NodeT t c T)(hex:zb6 z28 h0.ex=false):
  Wp (obind (z18 h 6 (.ptr n1 0)) fun t9=>outK (zdb Tryd.prog h z332 1 [(0,.agg t9)]) fun v10 h20=>callN (world n (D+1) 52 [.int .i64 (op:Int),v10] h20) fun r11 h22=>obind (z75 r11) fun t11=>obind (z17 h22 6 t11 (.ptr r0 0)) fun h25=>obind (z18 h25 6 (.ptr r0 0)) fun w=>some (.ret (.agg w),h25)) fun r h'=>∃c T,r=.ret (.agg c)∧NodeT (z389 op [t]) c T∧Mem S h0 h' ((b,TRd,rdP u p)::T):=by
 refine y20 M kt.len ?_;refine y27 M (kt.bld h) kt.one hex fun h1 M1=>?_;have g:=z2a2 c h.next kt.len kt.one;obtain⟨h2,e2,t2⟩:=z41c (n:=n) (d:=D) (h:=h1) g op;refine Wp.callN e2 ?_;have M2:=M1.keep t2;refine Wp.obind (z13 _) ?_
 have M3:Mem S h0 h2 ((b,TRd,rdP u p)::(r0,z28,l)::([(h.next,z28,c)]++(T++[]))):=by
  rw[List.append_nil]
  have M4:=M2.perm (ys:=[(n1,z28,c)]++((b,TRd,rdP u p)::(r0,z28,l)::([(h.next,z28,c)]++T))) (by
   refine List.Perm.trans ?_ (List.perm_append_comm (l₁:=(b,TRd,rdP u p)::(n1,z28,c)::(r0,z28,l)::T) (l₂:=[(h.next,z28,c)]));refine(List.Perm.swap _ _ _).trans ?_;refine List.Perm.cons _ (List.Perm.cons _ (List.Perm.cons _ ?_));exact List.perm_append_comm)
  exact Mem.drop M4
 exact z8b M3 hl (signed kt op h.next)
theorem z17f(hu:u.length≤1000000){m:Nat}(ih:AtomOk u m):PartOk u m:=by
 intro i hi hm;obtain⟨r,r1,r2,r3⟩:=ih i hi hm
 cases r with
 |error q=>
  refine⟨_,.bad r1,r2,?_⟩;intro n D b h hD hn hn2 k0 hb hx;obtain⟨D,rfl⟩:∃D',D=D'+7:=⟨D - 7,by omega⟩;refine StepN.err_of ?_;rw[z3c];unfold z1e;have Mx:=Mem.one k0 hb
  repeat(first|((with_reducible apply y9 Mx);clear Mx;intro _ Mx)|rw[z10])
  have M1:=Mx.swap;have hs:=r3 (n:=n) (D:=D+6) (by omega) hn hn2 M1.at0.1 M1.at0.2.1 (by rw[M1.ex];exact hx);exact y2f hs M1 fun h' p k1 t1=>⟨rfl,p,k1,t1⟩
 |ok tj=>
  obtain⟨t,j⟩:=tj;obtain⟨b1,b2⟩:=r2
  by_cases h42:at? u j=some 42
  ·have hsg : z1c8 u j = 5 := z213 h42
   obtain⟨hj,_⟩:=at?_some h42;have rp:=PartP.sign r1 (by rw[hsg];decide);rw[hsg] at rp;refine⟨_,rp,⟨by omega,by omega⟩,?_⟩;intro n D b h hD hn hn2 k0 hb hx;obtain⟨D,rfl⟩:∃D',D=D'+7:=⟨D - 7,by omega⟩;refine StepN.ok_of ?_;rw[z3c];unfold z1e;have Mx:=Mem.one k0 hb
   repeat(first|((with_reducible apply y9 Mx);clear Mx;intro _ Mx)|rw[z10])
   have M1:=Mx.swap;have hs:=r3 (n:=n) (D:=D+6) (by omega) hn hn2 M1.at0.1 M1.at0.2.1 (by rw[M1.ex];exact hx);refine y25 hs M1 fun c T h2 kt M3=>?_
   (((with_reducible apply Wp.obind);(with_reducible exact z13 _)))
   refine y9 M3 fun h3 M4=>?_;rw[z10];refine y11 M4 kt.len rfl kt.one fun h4 M5=>?_;have M6:=M5.swap;have hs1:=z9c (n:=n) (d:=D+3) M6.at0.1 M6.at0.2.1 b2 hu 42;rw[if_pos h42,decide_eq_true h42] at hs1;refine y3a hs1 M6 fun h5 M7=>?_
   repeat(with_reducible first|(apply Wp.obind;exact z6 _)|(refine y8 ?_ ?_;rfl))
   exact z358 (D:=D+5) (op:=5) M7 rfl kt hx
  by_cases h43:at? u j=some 43
  ·have hsg : z1c8 u j = 6 := z213 h43
   obtain⟨hj,_⟩:=at?_some h43;have rp:=PartP.sign r1 (by rw[hsg];decide);rw[hsg] at rp;refine⟨_,rp,⟨by omega,by omega⟩,?_⟩;intro n D b h hD hn hn2 k0 hb hx;obtain⟨D,rfl⟩:∃D',D=D'+7:=⟨D - 7,by omega⟩;refine StepN.ok_of ?_;rw[z3c];unfold z1e;have Mx:=Mem.one k0 hb
   repeat(first|((with_reducible apply y9 Mx);clear Mx;intro _ Mx)|rw[z10])
   have M1:=Mx.swap;have hs:=r3 (n:=n) (D:=D+6) (by omega) hn hn2 M1.at0.1 M1.at0.2.1 (by rw[M1.ex];exact hx);refine y25 hs M1 fun c T h2 kt M3=>?_
   (((with_reducible apply Wp.obind);(with_reducible exact z13 _)))
   refine y9 M3 fun h3 M4=>?_;rw[z10];refine y11 M4 kt.len rfl kt.one fun h4 M5=>?_;have M6:=M5.swap;have hs1:=z9c (n:=n) (d:=D+3) M6.at0.1 M6.at0.2.1 b2 hu 42;rw[if_neg h42,decide_eq_false h42] at hs1;refine y3a hs1 M6 fun h5 M7=>?_;have hs2:=z9c (n:=n) (d:=D+3) M7.at0.1 M7.at0.2.1 b2 hu 43;rw[if_pos h43,decide_eq_true h43] at hs2
   repeat(with_reducible first|(apply Wp.obind;exact z6 _)|(refine y7 ?_ ?_;rfl))
   refine y3a hs2 M7 fun h6 M8=>?_
   repeat(with_reducible first|(apply Wp.obind;exact z6 _)|(refine y8 ?_ ?_;rfl))
   exact z358 (D:=D+5) (op:=6) M8 rfl kt hx
  by_cases h63:at? u j=some 63
  ·have hsg : z1c8 u j = 7 := z213 h63
   obtain⟨hj,_⟩:=at?_some h63;have rp:=PartP.sign r1 (by rw[hsg];decide);rw[hsg] at rp;refine⟨_,rp,⟨by omega,by omega⟩,?_⟩;intro n D b h hD hn hn2 k0 hb hx;obtain⟨D,rfl⟩:∃D',D=D'+7:=⟨D - 7,by omega⟩;refine StepN.ok_of ?_;rw[z3c];unfold z1e;have Mx:=Mem.one k0 hb
   repeat(first|((with_reducible apply y9 Mx);clear Mx;intro _ Mx)|rw[z10])
   have M1:=Mx.swap;have hs:=r3 (n:=n) (D:=D+6) (by omega) hn hn2 M1.at0.1 M1.at0.2.1 (by rw[M1.ex];exact hx);refine y25 hs M1 fun c T h2 kt M3=>?_
   (((with_reducible apply Wp.obind);(with_reducible exact z13 _)))
   refine y9 M3 fun h3 M4=>?_;rw[z10];refine y11 M4 kt.len rfl kt.one fun h4 M5=>?_;have M6:=M5.swap;have hs1:=z9c (n:=n) (d:=D+3) M6.at0.1 M6.at0.2.1 b2 hu 42;rw[if_neg h42,decide_eq_false h42] at hs1;refine y3a hs1 M6 fun h5 M7=>?_;have hs2:=z9c (n:=n) (d:=D+3) M7.at0.1 M7.at0.2.1 b2 hu 43;rw[if_neg h43,decide_eq_false h43] at hs2
   repeat(with_reducible first|(apply Wp.obind;exact z6 _)|(refine y7 ?_ ?_;rfl))
   refine y3a hs2 M7 fun h6 M8=>?_;have hs3:=z9c (n:=n) (d:=D+3) M8.at0.1 M8.at0.2.1 b2 hu 63;rw[if_pos h63,decide_eq_true h63] at hs3
   repeat(with_reducible first|(apply Wp.obind;exact z6 _)|(refine y7 ?_ ?_;rfl))
   refine y3a hs3 M8 fun h7 M9=>?_
   repeat(with_reducible first|(apply Wp.obind;exact z6 _)|(refine y8 ?_ ?_;rfl))
   exact z358 (D:=D+5) (op:=7) M9 rfl kt hx
  ·have hsg := z3ce h42 h43 h63
   refine⟨_,.bare r1 hsg,⟨b1,b2⟩,?_⟩;intro n D b h hD hn hn2 k0 hb hx;obtain⟨D,rfl⟩:∃D',D=D'+7:=⟨D - 7,by omega⟩;refine StepN.ok_of ?_;rw[z3c];unfold z1e;have Mx:=Mem.one k0 hb
   repeat(first|((with_reducible apply y9 Mx);clear Mx;intro _ Mx)|rw[z10])
   have M1:=Mx.swap;have hs:=r3 (n:=n) (D:=D+6) (by omega) hn hn2 M1.at0.1 M1.at0.2.1 (by rw[M1.ex];exact hx);refine y25 hs M1 fun c T h2 kt M3=>?_
   (((with_reducible apply Wp.obind);(with_reducible exact z13 _)))
   refine y9 M3 fun h3 M4=>?_;rw[z10];refine y11 M4 kt.len rfl kt.one fun h4 M5=>?_;have M6:=M5.swap;have hs1:=z9c (n:=n) (d:=D+3) M6.at0.1 M6.at0.2.1 b2 hu 42;rw[if_neg h42,decide_eq_false h42] at hs1;refine y3a hs1 M6 fun h5 M7=>?_;have hs2:=z9c (n:=n) (d:=D+3) M7.at0.1 M7.at0.2.1 b2 hu 43;rw[if_neg h43,decide_eq_false h43] at hs2
   repeat(with_reducible first|(apply Wp.obind;exact z6 _)|(refine y7 ?_ ?_;rfl))
   refine y3a hs2 M7 fun h6 M8=>?_;have hs3:=z9c (n:=n) (d:=D+3) M8.at0.1 M8.at0.2.1 b2 hu 63;rw[if_neg h63,decide_eq_false h63] at hs3
   repeat(with_reducible first|(apply Wp.obind;exact z6 _)|(refine y7 ?_ ?_;rfl))
   refine y3a hs3 M8 fun h7 M9=>?_
   repeat(with_reducible first|(apply Wp.obind;exact z6 _)|(refine y7 ?_ ?_;rfl))
   refine y20 M9 kt.len ?_;exact z8b (z26e (xs:=[_]) (T0:=[_]) M9) rfl kt
end
section
variable {n d b p q i m:Nat}{h h0:AHeap}{u:z11}{Q:ARes→AHeap→Prop}{S:List Nat}{xs rs T T0 T1:List ze7}{w:List Nat}{x:R}{t:Nd}{c:List AV}{v kv:AV}{l:List Nd}{kc:List (List AV)}
theorem y36{r:Res}(main:∀Q:ARes→AHeap→Prop,(∀t j c T H',r=.ok (t,j)→NodeT t c T→Mem [b] h H' ((b,TRd,rdP u j)::T)→Q (.ret (.agg c)) H')→(∀e p H',r=.error e→Rd H' b u p→Tch [b] h H'→Q (.panic (z28a 6 e)) H')→Wp x Q):StepN b u h x r:=by
 cases r with
 |error e=>exact StepN.err_of (main _ (fun t j c T H' hh=>by cases hh) fun e' p H' hh k5 t5=>by cases hh;exact⟨rfl,p,k5,t5⟩)
 |ok tj=>
  obtain⟨t,j⟩:=tj;exact StepN.ok_of (main _ (fun t' j' c T H' hh k5 t5=>by cases hh;exact⟨c,T,rfl,k5,t5⟩) fun e' p H' hh=>by cases hh)
theorem y43{K:AV→AHeap→R}{y z:ze7}(M:Mem S h0 h (y::((z::(T0++T1))++T)))(g:GrowT z28 6 kc kv T0)(ks:KidsT l kc T1)(kt:NodeT t c T)(hex:zb6 z28 h0.ex=false)(hl:l.length≤1000001)(hk:∀kv' h' T0',GrowT z28 6 (kc++[c]) kv' T0'→KidsT (l++[t]) (kc++[c]) (T1++T)→Mem S h0 h' (y::z::(T0'++(T1++T)))→Wp (K kv' h') Q):
  Wp (outK (zdb Tryd.prog h z332 1 [(0,.agg c)]) fun v12 h29=>outK (z4b Tryd.prog h29 z332 z332 kv v12) fun v13 h31=>K v13 h31) Q:=by
 refine y27 M (kt.bld h) kt.one hex fun h1 M1=>?_
 have M2:Mem S h0 h1 ((h.next,z28,c)::(y::z::(T1++T))++T0):=M1.perm (by
  refine List.Perm.cons _ (List.Perm.cons _ (List.Perm.cons _ ?_));show ((T1++T)++T0).Perm ((T0++T1)++T);rw[List.append_assoc T0];exact List.perm_append_comm)
 have hkl:=ks.len;refine Wp.grow M2 g (by kernel_rfl) (by kernel_rfl) (by kernel_rfl) (B:=64) (by kernel_rfl) hex kt.len kt.one (by omega) (by omega) fun kv' h' T0' g' M3=>?_;refine hk kv' h' T0' g' (y53 kt ks) (M3.perm ?_);exact List.Perm.cons _ (List.Perm.cons _ List.perm_append_comm)
theorem at?_none(h:at? u i=none)(hi:i≤u.length):i=u.length:=by
 by_cases hp:i<u.length
 ·rw [at?_lt hp] at h
  cases h
 ·omega
theorem z417(hu:u.length≤1000000)(ih:PartOk u m):∀(k i:Nat) (l:List Nd),i≤u.length→u.length - i≤m→u.length - i<k→l.length≤i→∃r,RowP u l i r∧Bnd u i r∧
   ∀{n D f b r0:Nat} {S:List Nat} {h0 H:AHeap} {kc:List (List AV)} {kv:AV} {T0 T1:List ze7} {z:List AV} {k7:AV→AHeap→R} {Q:ARes→AHeap→Prop},4*m+7≤D→300<n→u.length+5<n→u.length - i<f→GrowT z28 6 kc kv T0→KidsT l kc T1→zb6 z28 h0.ex=false→
    Mem S h0 H ((b,TRd,rdP u i)::(r0,z28,z)::(T0++T1))→
    (∀l' j kc kv T0 T1 H',r=.ok (z222 3 l',j)→GrowT z28 6 kc kv T0→KidsT l' kc T1→Mem S h0 H' ((b,TRd,rdP u j)::(r0,z28,z)::(T0++T1))→Wp (k7 kv H') Q)→
    (∀e p H',r=.error e→Rd H' b u p→Tch S h0 H'→Q (.panic (z28a 6 e)) H')→
    Wp (z3e (world n D) (.ptr b 0) k7 f kv H) Q
 |0,_,_,_,_,hk,_=>by omega
 |k+1,i,l,hi,hm,hk,hli=>by
  by_cases hst:z448 u i
  ·refine ⟨_, .stop hst, ⟨Nat.le_refl _, hi⟩, ?_⟩
   intro n D f b r0 S h0 H kc kv T0 T1 z k7 Q hD hn hn2 hf g ks hex M hok hbad;obtain⟨D,rfl⟩:∃D',D=D'+7:=⟨D - 7,by omega⟩
   cases f with
   |zero=>omega
   |succ f=>
    have he:=z183 (n:=n) (d:=D+6) M.at0.1;have h1:world n (D+7) 59 [.ptr b 0,.int .u8 124] H=some (.ret (.bool (decide (at? u i=some 124))),H):=z2b3 (n:=n) (d:=D+5) M.at0.1 hi 124;have h2:world n (D+7) 59 [.ptr b 0,.int .u8 41] H=some (.ret (.bool (decide (at? u i=some 41))),H):=z2b3 (n:=n) (d:=D+5) M.at0.1 hi 41;have hfin:=hok l i kc kv T0 T1 H rfl g ks M;rw[z4a];unfold z30
    rcases hst with hc|hc|hc
    ·have := at?_none hc hi
     rw[decide_eq_true this] at he
     repeat(with_reducible first|refine yc (fun _ _=>?_)|refine Wp.lett ?_|(apply Wp.obind;exact z6 _)|(refine y7 ?_ ?_;first|rfl|exact Bool.not_true)|(apply Wp.callN;assumption)|refine ye (by assumption) ?_)
     exact hfin
    ·obtain ⟨hp, _⟩ := at?_some hc
     rw[decide_eq_false (by omega)] at he;rw[decide_eq_true hc] at h1
     repeat(with_reducible first|refine yc (fun _ _=>?_)|refine Wp.lett ?_|(apply Wp.obind;exact z6 _)|(refine y8 ?_ ?_;exact Bool.not_false)|(refine y7 ?_ ?_;first|rfl|exact Bool.not_true)|(apply Wp.callN;assumption)|refine ye (by assumption) ?_)
     exact hfin
    ·obtain ⟨hp, _⟩ := at?_some hc
     rw[decide_eq_false (by omega)] at he;rw[decide_eq_false (by rw[hc];decide)] at h1;rw[decide_eq_true hc] at h2
     repeat(with_reducible first|refine yc (fun _ _=>?_)|refine Wp.lett ?_|(apply Wp.obind;exact z6 _)|(refine y8 ?_ ?_;exact Bool.not_false)|(refine y7 ?_ ?_;exact Bool.not_true)|(apply Wp.callN;assumption)|refine ye (by assumption) ?_)
     exact hfin
  ·have hlt : i < u.length := by
    rcases Nat.lt_or_ge i u.length with h|h
    ·exact h
    ·exact absurd (.inl (at?_ge h)) hst
   have n1:at? u i≠some 124:=fun hh=>hst (.inr (.inl hh))
   have n2:at? u i≠some 41:=fun hh=>hst (.inr (.inr hh))
   obtain⟨r,r1,r2,r3⟩:=ih i hi hm
   cases r with
   |error e=>
    refine⟨_,.bad hst r1,r2,?_⟩;intro n D f b r0 S h0 H kc kv T0 T1 z k7 Q hD hn hn2 hf g ks hex M hok hbad;obtain⟨D,rfl⟩:∃D',D=D'+7:=⟨D - 7,by omega⟩
    cases f with
    |zero=>omega
    |succ f=>
     have he:=z183 (n:=n) (d:=D+6) M.at0.1;have h1:world n (D+7) 59 [.ptr b 0,.int .u8 124] H=some (.ret (.bool (decide (at? u i=some 124))),H):=z2b3 (n:=n) (d:=D+5) M.at0.1 hi 124;have h2:world n (D+7) 59 [.ptr b 0,.int .u8 41] H=some (.ret (.bool (decide (at? u i=some 41))),H):=z2b3 (n:=n) (d:=D+5) M.at0.1 hi 41;rw[decide_eq_false (by omega)] at he;rw[decide_eq_false n1] at h1;rw[decide_eq_false n2] at h2;have hs:=r3 (n:=n) (D:=D+7) (by omega) hn hn2 M.at0.1 M.at0.2.1 (by rw[M.ex];exact hex);rw[z4a];unfold z30
     repeat(first|(with_reducible first|refine yc (fun _ _=>?_)|refine Wp.lett ?_|(apply Wp.obind;exact z6 _)|(refine y8 ?_ ?_;exact Bool.not_false))|((with_reducible first|apply Wp.callN|apply Wp.callK);(with_reducible assumption))|(with_reducible refine ye (by assumption) ?_))
     exact y2f hs M fun h' p k1 t1=>hbad e p h' rfl k1 t1
   |ok tj=>
    obtain⟨t,j⟩:=tj;obtain⟨b1,b2⟩:=r2;obtain⟨r,q1,q2,q3⟩:=z417 hu ih k j (l++[t]) b2 (by omega) (by omega) (by simp;omega);refine⟨r,.more hst r1 q1,?_,?_⟩
    ·cases r with
     |error e=>exact q2
     |ok tj2=>
      obtain⟨a1,a2⟩:=q2;exact⟨by omega,a2⟩
    ·intro n D f b r0 S h0 H kc kv T0 T1 z k7 Q hD hn hn2 hf g ks hex M hok hbad
     obtain⟨D,rfl⟩:∃D',D=D'+7:=⟨D - 7,by omega⟩
     cases f with
     |zero=>omega
     |succ f=>
      have he:=z183 (n:=n) (d:=D+6) M.at0.1;have h1:world n (D+7) 59 [.ptr b 0,.int .u8 124] H=some (.ret (.bool (decide (at? u i=some 124))),H):=z2b3 (n:=n) (d:=D+5) M.at0.1 hi 124;have h2:world n (D+7) 59 [.ptr b 0,.int .u8 41] H=some (.ret (.bool (decide (at? u i=some 41))),H):=z2b3 (n:=n) (d:=D+5) M.at0.1 hi 41;rw[decide_eq_false (by omega)] at he;rw[decide_eq_false n1] at h1;rw[decide_eq_false n2] at h2;have hs:=r3 (n:=n) (D:=D+7) (by omega) hn hn2 M.at0.1 M.at0.2.1 (by rw[M.ex];exact hex);rw[z4a];unfold z30
      repeat(first|(with_reducible first|refine yc (fun _ _=>?_)|refine Wp.lett ?_|(apply Wp.obind;exact z6 _)|(refine y8 ?_ ?_;exact Bool.not_false))|((with_reducible first|apply Wp.callN|apply Wp.callK);(with_reducible assumption))|(with_reducible refine ye (by assumption) ?_))
      refine y25 hs M fun c T h2 kt M3=>?_
      (((with_reducible apply Wp.obind);(with_reducible exact z13 _)))
      refine y43 M3 g ks kt hex (by omega) fun kv' h' T0' g' ks' M4=>?_;exact q3 hD hn hn2 (by omega) g' ks' hex M4 hok hbad
theorem row_ok(hu:u.length≤1000000)(ih:PartOk u m):RowOk u m:=by
 intro i hi hm;obtain⟨r,r1,r2,r3⟩:=z417 hu ih (u.length+1) i [] hi hm (by omega) (Nat.zero_le _);refine⟨r,r1,r2,?_⟩;intro n D b h hD hn hn2 k0 hb hx;obtain⟨D,rfl⟩:∃D',D=D'+8:=⟨D - 8,by omega⟩;refine y36 fun Q q1 q2=>?_;rw[z15f];unfold z39;refine y9 (Mem.one k0 hb) fun h1 Mx=>?_;rw[z10];have M1:=Mx.swap
 ((with_reducible refine yc (fun _ _=>?_)))
 rename_i k7 ek7;refine r3 (r0:=h.next) (by omega) hn hn2 (by omega) (GrowT.nil _ _) .nil hx M1 ?_ q2;intro l' j kc kv T0 T1 H' hr g ks M2;refine ye ek7 ?_;obtain⟨c,T,h2,e2,kt,M3⟩:=inRow_r (n:=n) (d:=D+5) (xs:=[_,_]) M2 g ks
 repeat(with_reducible first|(apply Wp.obind;exact z13 _)|(apply Wp.callN;assumption))
 refine(z8b M3 rfl kt).mono ?_
 rintro _ h3 ⟨c3,T3,rfl,kt3,M4⟩
 exact q1 _ _ _ _ _ hr kt3 M4
end
section
variable {n d b p q i m:Nat}{h h0:AHeap}{u:z11}{Q:ARes→AHeap→Prop}{S:List Nat}{xs rs T T0 T1:List ze7}{w:List Nat}{x:R}{t:Nd}{c:List AV}{v kv:AV}{l:List Nd}{kc:List (List AV)}
theorem z444(hu:u.length≤1000000)(ih:RowOk u m):∀(k j:Nat) (l:List Nd),j≤u.length→u.length - j≤m→u.length - j<k→l.length≤j+1→l≠[]→∃r,(at? u j=some 124→AltP u l (j+1) r)∧(at? u j≠some 124→r=.ok (z222 4 l,j))∧Bnd u j r∧
   ∀{n D f b r0:Nat} {S:List Nat} {h0 H:AHeap} {kc:List (List AV)} {kv:AV} {T0 T1:List ze7} {z:List AV} {k12:AV→AHeap→R} {Q:ARes→AHeap→Prop},4*m+8≤D→300<n→u.length+5<n→u.length - j<f→GrowT z28 6 kc kv T0→KidsT l kc T1→zb6 z28 h0.ex=false→
    Mem S h0 H ((b,TRd,rdP u j)::(r0,z28,z)::(T0++T1))→
    (∀l' j kc kv T0 T1 H',l'≠[]→r=.ok (z222 4 l',j)→GrowT z28 6 kc kv T0→KidsT l' kc T1→Mem S h0 H' ((b,TRd,rdP u j)::(r0,z28,z)::(T0++T1))→Wp (k12 kv H') Q)→
    (∀e p H',r=.error e→Rd H' b u p→Tch S h0 H'→Q (.panic (z28a 6 e)) H')→
    Wp (z32 (world n D) (.ptr b 0) k12 f kv H) Q
 |0,_,_,_,_,hk,_,_=>by omega
 |k+1,j,l,hi,hm,hk,hli,hne=>by
  by_cases hst:at? u j=some 124
  ·obtain ⟨hp, _⟩ := at?_some hst
   obtain⟨r,r1,r2,r3⟩:=ih (j+1) (by omega) (by omega)
   cases r with
   |error e=>
    refine⟨.error e,fun _=>.bad r1,fun hh=>absurd hst hh,r2,?_⟩;intro n D f b r0 S h0 H kc kv T0 T1 z k12 Q hD hn hn2 hf g ks hex M hok hbad;obtain⟨D,rfl⟩:∃D',D=D'+8:=⟨D - 8,by omega⟩
    cases f with
    |zero=>omega
    |succ f=>
     rw[z41];unfold z2a;have hs1:=z9c (n:=n) (d:=D+5) M.at0.1 M.at0.2.1 hi hu 124;rw[if_pos hst,decide_eq_true hst] at hs1;refine y3a hs1 M fun h1 M1=>?_;have hs:=r3 (n:=n) (D:=D+8) (by omega) hn hn2 M1.at0.1 M1.at0.2.1 (by rw[M1.ex];exact hex)
     repeat(with_reducible first|(apply Wp.obind;exact z6 _)|(refine y8 ?_ ?_;rfl))
     exact y2f hs M1 fun h' p k1 t1=>hbad e p h' rfl k1 t1
   |ok tj=>
    obtain⟨t,j2⟩:=tj;obtain⟨b1,b2⟩:=r2;obtain⟨r,q1,q2,q3,q4⟩:=z444 hu ih k j2 (l++[t]) b2 (by omega) (by omega) (by simp;omega) (by simp);refine⟨r,fun _=>?_,fun hh=>absurd hst hh,?_,?_⟩
    ·by_cases h2 : at? u j2 = some 124
     ·exact .more r1 h2 (q1 h2)
     ·rw [q2 h2]
      exact .last r1 h2
    ·cases r with
     |error e=>exact q3
     |ok tj2=>
      obtain⟨a1,a2⟩:=q3;exact⟨by omega,a2⟩
    ·intro n D f b r0 S h0 H kc kv T0 T1 z k12 Q hD hn hn2 hf g ks hex M hok hbad
     obtain⟨D,rfl⟩:∃D',D=D'+8:=⟨D - 8,by omega⟩
     cases f with
     |zero=>omega
     |succ f=>
      rw[z41];unfold z2a;have hs1:=z9c (n:=n) (d:=D+5) M.at0.1 M.at0.2.1 hi hu 124;rw[if_pos hst,decide_eq_true hst] at hs1;refine y3a hs1 M fun h1 M1=>?_;have hs:=r3 (n:=n) (D:=D+8) (by omega) hn hn2 M1.at0.1 M1.at0.2.1 (by rw[M1.ex];exact hex)
      repeat(with_reducible first|(apply Wp.obind;exact z6 _)|(refine y8 ?_ ?_;rfl))
      refine y25 hs M1 fun c T h2 kt M3=>?_
      (((with_reducible apply Wp.obind);(with_reducible exact z13 _)))
      refine y43 M3 g ks kt hex (by omega) fun kv' h' T0' g' ks' M4=>?_;exact q4 hD hn hn2 (by omega) g' ks' hex M4 hok hbad
  ·refine ⟨.ok (z222 4 l, j), fun hh => absurd hh hst, fun _ => rfl, ⟨Nat.le_refl _, hi⟩, ?_⟩
   intro n D f b r0 S h0 H kc kv T0 T1 z k12 Q hD hn hn2 hf g ks hex M hok hbad;obtain⟨D,rfl⟩:∃D',D=D'+8:=⟨D - 8,by omega⟩
   cases f with
   |zero=>omega
   |succ f=>
    rw[z41];unfold z2a;have hs1:=z9c (n:=n) (d:=D+5) M.at0.1 M.at0.2.1 hi hu 124;rw[if_neg hst,decide_eq_false hst] at hs1;refine y3a hs1 M fun h1 M1=>?_
    repeat(with_reducible first|(apply Wp.obind;exact z6 _)|(refine y7 ?_ ?_;rfl))
    exact hok l j kc kv T0 T1 h1 hne rfl g ks M1
theorem alt_ok(hu:u.length≤1000000)(ih:RowOk u m):AltOk u m:=by
 intro i hi hm;obtain⟨r,r1,r2,r3⟩:=ih i hi hm
 cases r with
 |error e=>
  refine⟨.error e,.bad r1,r2,?_⟩;intro n D b h hD hn hn2 k0 hb hx;obtain⟨D,rfl⟩:∃D',D=D'+9:=⟨D - 9,by omega⟩;refine StepN.err_of ?_;rw[zc7];unfold z2b;refine y9 (Mem.one k0 hb) fun h1 Mx=>?_;have M1:=Mx.swap;have hs:=r3 (n:=n) (D:=D+8) (by omega) hn hn2 M1.at0.1 M1.at0.2.1 (by rw[M1.ex];exact hx);exact y2f hs M1 fun h' p k1 t1=>⟨rfl,p,k1,t1⟩
 |ok tj=>
  obtain⟨t,j⟩:=tj;obtain⟨b1,b2⟩:=r2;obtain⟨r,q1,q2,q3,q4⟩:=z444 hu ih (u.length+1) j [t] b2 (by omega) (by omega) (by simp) (by simp);refine⟨r,?_,?_,?_⟩
  ·by_cases h2 : at? u j = some 124
   ·exact .more (l:=[]) r1 h2 (q1 h2)
   ·rw [q2 h2]
    exact .last (l:=[]) r1 h2
  ·cases r with
   |error e=>exact q3
   |ok tj2=>
    obtain⟨a1,a2⟩:=q3;exact⟨by omega,a2⟩
  intro n D b h hD hn hn2 k0 hb hx;obtain⟨D,rfl⟩:∃D',D=D'+9:=⟨D - 9,by omega⟩;refine y36 fun Q o1 o2=>?_;rw[zc7];unfold z2b;refine y9 (Mem.one k0 hb) fun h1 Mx=>?_;have M1:=Mx.swap;have hs:=r3 (n:=n) (D:=D+8) (by omega) hn hn2 M1.at0.1 M1.at0.2.1 (by rw[M1.ex];exact hx);refine y25 hs M1 fun c T h2 kt M3=>?_
  (((with_reducible apply Wp.obind);(with_reducible exact z13 _)))
  refine y27 M3 (kt.bld h2) kt.one hx fun h3 M4=>?_
  ((with_reducible refine yc (fun _ _=>?_)))
  rename_i k12 ek12
  have M5:Mem [b] h h3 ((b,TRd,rdP u j)::(h.next,z28,[.int .i64 0,.int .u64 0,.int .u64 0,.int .u64 0,.int .u64 0,.nsl])::([(h2.next,z28,c)]++(T++[]))):=M4.perm (by
   rw[List.append_nil];exact List.perm_append_comm_assoc [_,_] [_] T)
  refine q4 (r0:=h.next) (by omega) hn hn2 (by omega) (z2a2 c h2.next kt.len kt.one) (KidsT.cons kt .nil) hx M5 ?_ o2;intro l' j' kc kv T0 T1 H' hne hr g ks M6;refine ye ek12 ?_;have hlen:=g.len;have hkl:=ks.len
  match l',hne,hr,ks,hkl with
  |[t'],_,hr,ks,hkl=>
   obtain⟨c',rfl,kt'⟩:=ks.one;obtain⟨q,rfl,rfl⟩:=z2d6 g;have ei:z1a6 6 (.sl q 0 1 6) 0=some (.ptr q 0):=idx0 q 0;have hl1:z153 (.sl q 0 1 6)=some 1:=rfl
   repeat(first|(with_reducible first|refine Wp.lett ?_|(apply Wp.obind;first|exact hl1|exact ei))|((with_reducible refine y8 ?_ ?_;apply z88);omega)|rw[z10])
   refine Wp.obind (RowH.ldAll (Mem.at (xs:=[_,_]) M6).1 kt'.len) ?_;refine(z8b (z26e (xs:=[_,_]) (T0:=[_]) M6) rfl kt').mono ?_
   rintro _ h3 ⟨c3,T3,rfl,kt3,M7⟩
   exact o1 _ _ _ _ _ hr kt3 M7
  |t1::t2::ts,_,hr,ks,hkl=>
   simp only[List.length_cons] at hkl;have hl:=z1d1 (kv:=kv) (op:=4) z89;have ho:=zb3 (op:=4) (w:=z9b) g.one.1;obtain⟨h4,e4,t4⟩:=z41c (n:=n) (d:=D+7) (h:=H') g 4;have kt4:NodeT (z222 4 (t1::t2::ts)) (z96 4 z9b kv) (T0++T1):=NodeT.mk z89 g ks;have e5:world n (D+8) 52 [.int .i64 4,kv] H'=some (.ret (.agg (z96 4 z9b kv)),h4):=e4
   repeat(first|(with_reducible first|refine Wp.lett ?_|(apply Wp.obind;first|exact hlen|exact z13 _))|((with_reducible refine y7 ?_ ?_;apply z99);omega)|(with_reducible apply Wp.callN;exact e5)|rw[z10])
   refine(z8b (M6.keep t4) rfl kt4).mono ?_
   rintro _ h3 ⟨c3,T3,rfl,kt3,M7⟩
   exact o1 _ _ _ _ _ hr kt3 M7
theorem alts_ok(hu:u.length≤1000000):∀m,AltOk u m
 |0=>alt_ok hu (row_ok hu (z17f hu (atom_ok hu fun m' hm=>by omega)))
 | m + 1 => alt_ok hu (row_ok hu (z17f hu (atom_ok hu fun m' hm => by
   obtain rfl:m=m':=by omega
   exact alts_ok hu m)))
end
def z295(u:z11)(i:Nat):Res:=match at? u i with
 |none=>.error i
 |some c=>.ok (z3c3 c,i+1)
def z346(u:z11)(i:Nat):Res:=match at? u i with
 |none=>.error i
 | some c => if c = 42 then .ok (z389 5 [anyN], i + 1) else if c = 63 then .ok (anyN, i + 1) else if c = 92 then (match at? u (i + 1) with
   |none=>.error (i+1)
   |some e=>.ok (z3c3 e,i+2))
  else .ok (z3c3 c,i+1)
inductive FlatP (F:Nat→Res) (u:z11):List Nd→Nat→Res→Prop
 |stop {l:List Nd} {i:Nat} (s:u.length≤i):FlatP F u l i (.ok (z222 3 l,i))
 |bad {l:List Nd} {i q:Nat} (s:i<u.length) (h:F i=.error q):FlatP F u l i (.error q)
 |more {l:List Nd} {i j:Nat} {t:Nd} {r:Res} (s:i<u.length) (h:F i=.ok (t,j)) (m:FlatP F u (l++[t]) j r):FlatP F u l i r
def PartF(u:z11)(fid:Nat)(F:Nat→Res):Prop:=(∀i,i≤u.length→Bnd1 u i (F i))∧
 ∀{n D b i:Nat} {h:AHeap},4≤D→300<n→i≤u.length→Rd h b u i→b<h.next→zb6 z28 h.ex=false→StepN b u h (world n D fid [.ptr b 0] h) (F i)
theorem dynL(call:zd)(b:Nat)(h:AHeap):z47e Tryd.prog call (AV.fn 48 [.ptr b 0] []) [] h=call 48 [.ptr b 0] h:=by
 have e:z3b7 Tryd.prog h [] (some (AV.fn 48 [.ptr b 0] []))=some (.call 48 [.ptr b 0],h):=by kernel_rfl
 unfold z47e;rw[e]
theorem dynG(call:zd)(b:Nat)(h:AHeap):z47e Tryd.prog call (AV.fn 45 [.ptr b 0] []) [] h=call 45 [.ptr b 0] h:=by
 have e:z3b7 Tryd.prog h [] (some (AV.fn 45 [.ptr b 0] []))=some (.call 45 [.ptr b 0],h):=by kernel_rfl
 unfold z47e;rw[e]
section
variable {n d b p q i m:Nat}{h h0:AHeap}{u:z11}{Q:ARes→AHeap→Prop}{S:List Nat}{xs rs T T0 T1:List ze7}{w:List Nat}{x:R}{t:Nd}{c:List AV}{v kv:AV}{l:List Nd}{kc:List (List AV)}
theorem partL_f(hu:u.length≤1000000):PartF u 48 (z295 u):=by
 refine⟨fun i hi=>?_,?_⟩
 ·unfold z295
  cases hc:at? u i with
  |none=>exact hi
  |some c=>
   obtain⟨hp,_⟩:=at?_some hc;exact⟨by omega,by omega⟩
 intro n D b i h hD hn hi k0 hb hx;obtain⟨D,rfl⟩:∃D',D=D'+4:=⟨D - 4,by omega⟩;unfold z295;cases hc:at? u i with
 |none=>
  refine StepN.err_of ?_;rw[zd5];unfold z2e;refine y9 (Mem.one k0 hb) fun h1 Mx=>?_;have M1:=Mx.swap;have hs:=zbd (n:=n) (d:=D+1) M1.at0.1 M1.at0.2.1 hi hu;rw[hc] at hs;exact y4f hs M1 fun h' p k1 t1=>⟨rfl,p,k1,t1⟩
 |some c=>
  have h256:=at?_256 hc;refine StepN.ok_of ?_;rw[zd5];unfold z2e;refine y9 (Mem.one k0 hb) fun h1 Mx=>?_;have M1:=Mx.swap;have hs:=zbd (n:=n) (d:=D+1) M1.at0.1 M1.at0.2.1 hi hu;rw[hc] at hs;refine y2b hs M1 fun h2 M2=>?_
  repeat(first|(with_reducible first|(apply Wp.obind;first|exact z5 _ _|exact z13 _)|(apply Wp.callN;exact z1d0 (d:=D+1) hn h256))|rw[z10])
  exact z8b M2 rfl (y23 2 (z12f 1 z89 c))
theorem partG_f(hu:u.length≤1000000):PartF u 45 (z346 u):=by
 refine⟨fun i hi=>?_,?_⟩
 ·unfold z346
  cases hc:at? u i with
  |none=>exact hi
  |some c=>
   obtain⟨hp,_⟩:=at?_some hc;dsimp only
   split
   ·exact⟨by omega,by omega⟩
   ·split
    ·exact⟨by omega,by omega⟩
    ·split
     ·cases he : at? u (i + 1) with
      |none=>exact(by omega:i+1≤u.length)
      |some e=>
       obtain⟨hp2,_⟩:=at?_some he;exact⟨by omega,by omega⟩
     ·exact⟨by omega,by omega⟩
 intro n D b i h hD hn hi k0 hb hx;obtain⟨D,rfl⟩:∃D',D=D'+4:=⟨D - 4,by omega⟩;unfold z346;cases hc:at? u i with
 |none=>
  refine StepN.err_of ?_;rw[z36];unfold z20;refine y9 (Mem.one k0 hb) fun h1 Mx=>?_;have M1:=Mx.swap;have hs:=zbd (n:=n) (d:=D+1) M1.at0.1 M1.at0.2.1 hi hu;rw[hc] at hs;exact y4f hs M1 fun h' p k1 t1=>⟨rfl,p,k1,t1⟩
 |some c=>
  obtain⟨hp,_⟩:=at?_some hc;have h256:=at?_256 hc;dsimp only
  by_cases h42:c=42
  ·rw [if_pos h42]
   refine StepN.ok_of ?_;rw[z36];unfold z20;refine y9 (Mem.one k0 hb) fun h1 Mx=>?_;have M1:=Mx.swap;have hs:=zbd (n:=n) (d:=D+1) M1.at0.1 M1.at0.2.1 hi hu;rw[hc] at hs;refine y2b hs M1 fun h2 M2=>?_;have kt:NodeT anyN (z96 2 anyW .nsl) []:=y23 2 z366
   repeat(first|(with_reducible first|refine Wp.lett ?_|(apply Wp.obind;first|exact z5 _ _|exact z13 _))|((with_reducible refine y8 ?_ ?_;apply z88);omega)|(with_reducible apply Wp.callN;exact z2e7 (d:=D+1) hn)|rw[z10])
   refine y27 M2 (kt.bld h2) kt.one hx fun h3 M3=>?_;obtain⟨h4,e4,t4⟩:=z41c (n:=n) (d:=D+2) (h:=h3) (z2a2 _ h2.next kt.len kt.one) 5;refine Wp.callN e4 ?_;have M4:=M3.keep t4;refine Wp.obind (z13 _) ?_;have M5:Mem [b] h h4 ((b,TRd,rdP u (i+1))::(h.next,z28,[.int .i64 0,.int .u64 0,.int .u64 0,.int .u64 0,.int .u64 0,.nsl])::([(h2.next,z28,z96 2 anyW .nsl)]++([]++[]))):=M4.perm (List.perm_append_comm (l₁:=[_,_]) (l₂:=[_]));exact z8b M5 rfl (signed kt 5 h2.next)
  rw[if_neg h42]
  by_cases h63:c=63
  ·rw [if_pos h63]
   refine StepN.ok_of ?_;rw[z36];unfold z20;refine y9 (Mem.one k0 hb) fun h1 Mx=>?_;have M1:=Mx.swap;have hs:=zbd (n:=n) (d:=D+1) M1.at0.1 M1.at0.2.1 hi hu;rw[hc] at hs;refine y2b hs M1 fun h2 M2=>?_
   repeat(first|(with_reducible first|refine Wp.lett ?_|(apply Wp.obind;first|exact z5 _ _|exact z13 _))|((with_reducible refine y8 ?_ ?_;apply z88);omega)|((with_reducible refine y7 ?_ ?_;apply z99);omega)|(with_reducible apply Wp.callN;exact z2e7 (d:=D+1) hn)|rw[z10])
   exact z8b M2 rfl (y23 2 z366)
  rw[if_neg h63]
  by_cases h92:c=92
  ·rw [if_pos h92]
   cases he:at? u (i+1) with
   |none=>
    refine StepN.err_of ?_;rw[z36];unfold z20;refine y9 (Mem.one k0 hb) fun h1 Mx=>?_;have M1:=Mx.swap;have hs:=zbd (n:=n) (d:=D+1) M1.at0.1 M1.at0.2.1 hi hu;rw[hc] at hs;refine y2b hs M1 fun h2 M2=>?_;have hs2:=zbd (n:=n) (d:=D+1) M2.at0.1 M2.at0.2.1 (by omega) hu;rw[he] at hs2
    repeat(first|(with_reducible first|refine Wp.lett ?_|(apply Wp.obind;exact z5 _ _))|((with_reducible refine y8 ?_ ?_;apply z88);omega)|((with_reducible refine y7 ?_ ?_;apply z99);omega)|rw[z10])
    exact y4f hs2 M2 fun h' p k1 t1=>⟨rfl,p,k1,t1⟩
   |some e=>
    refine StepN.ok_of ?_;rw[z36];unfold z20;refine y9 (Mem.one k0 hb) fun h1 Mx=>?_;have M1:=Mx.swap;have hs:=zbd (n:=n) (d:=D+1) M1.at0.1 M1.at0.2.1 hi hu;rw[hc] at hs;refine y2b hs M1 fun h2 M2=>?_;have hs2:=zbd (n:=n) (d:=D+1) M2.at0.1 M2.at0.2.1 (by omega) hu;rw[he] at hs2
    repeat(first|(with_reducible first|refine Wp.lett ?_|(apply Wp.obind;exact z5 _ _))|((with_reducible refine y8 ?_ ?_;apply z88);omega)|((with_reducible refine y7 ?_ ?_;apply z99);omega)|rw[z10])
    refine y2b hs2 M2 fun h3 M3=>?_
    repeat(with_reducible first|(apply Wp.obind;first|exact z5 _ _|exact z13 _)|(apply Wp.callN;exact z1d0 (d:=D+1) hn (at?_256 he)))
    exact z8b M3 rfl (y23 2 (z12f 1 z89 e))
  rw[if_neg h92];refine StepN.ok_of ?_;rw[z36];unfold z20;refine y9 (Mem.one k0 hb) fun h1 Mx=>?_;have M1:=Mx.swap;have hs:=zbd (n:=n) (d:=D+1) M1.at0.1 M1.at0.2.1 hi hu;rw[hc] at hs;refine y2b hs M1 fun h2 M2=>?_
  repeat(first|(with_reducible first|refine Wp.lett ?_|(apply Wp.obind;first|exact z5 _ _|exact z13 _))|((with_reducible refine y7 ?_ ?_;apply z99);omega)|(with_reducible apply Wp.callN;exact z1d0 (d:=D+1) hn h256)|rw[z10])
  exact z8b M2 rfl (y23 2 (z12f 1 z89 c))
theorem z3ad{fid:Nat}{F:Nat→Res}(hu:u.length≤1000000)(hF:PartF u fid F)(hdyn:∀(call:zd) (b:Nat) (h:AHeap),z47e Tryd.prog call (AV.fn fid [.ptr b 0] []) [] h=call fid [.ptr b 0] h):∀(k i:Nat) (l:List Nd),i≤u.length→u.length - i<k→l.length≤i→∃r,FlatP F u l i r∧Bnd u i r∧
   ∀{n D f b r0:Nat} {S:List Nat} {h0 H:AHeap} {kc:List (List AV)} {kv:AV} {T0 T1:List ze7} {z:List AV} {k7:AV→AHeap→R} {Q:ARes→AHeap→Prop},4≤D→300<n→u.length - i<f→GrowT z28 6 kc kv T0→KidsT l kc T1→zb6 z28 h0.ex=false→
    Mem S h0 H ((b,TRd,rdP u i)::(r0,z28,z)::(T0++T1))→
    (∀l' j kc kv T0 T1 H',r=.ok (z222 3 l',j)→GrowT z28 6 kc kv T0→KidsT l' kc T1→Mem S h0 H' ((b,TRd,rdP u j)::(r0,z28,z)::(T0++T1))→Wp (k7 kv H') Q)→
    (∀e p H',r=.error e→Rd H' b u p→Tch S h0 H'→Q (.panic (z28a 6 e)) H')→
    Wp (z77 (world n D) (.ptr b 0) (AV.fn fid [.ptr b 0] []) k7 f kv H) Q
 |0,_,_,_,hk,_=>by omega
 |k+1,i,l,hi,hk,hli=>by
  by_cases hst:u.length≤i
  ·refine ⟨_, .stop hst, ⟨Nat.le_refl _, hi⟩, ?_⟩
   intro n D f b r0 S h0 H kc kv T0 T1 z k7 Q hD hn hf g ks hex M hok hbad;obtain⟨D,rfl⟩:∃D',D=D'+4:=⟨D - 4,by omega⟩
   cases f with
   |zero=>omega
   |succ f=>
    have he:=z183 (n:=n) (d:=D+3) M.at0.1;have hfin:=hok l i kc kv T0 T1 H rfl g ks M;rw[z8a];unfold z4f;rw[decide_eq_true (by omega)] at he
    repeat(with_reducible first|refine Wp.lett ?_|(apply Wp.obind;exact z6 _)|(refine y7 ?_ ?_;exact Bool.not_true)|(apply Wp.callN;assumption))
    exact hfin
  ·have hb1 := hF.1 i hi
   cases hr:F i with
   |error e=>
    rw[hr] at hb1;refine⟨_,.bad (by omega) hr,hb1,?_⟩;intro n D f b r0 S h0 H kc kv T0 T1 z k7 Q hD hn hf g ks hex M hok hbad;obtain⟨D,rfl⟩:∃D',D=D'+4:=⟨D - 4,by omega⟩
    cases f with
    |zero=>omega
    |succ f=>
     have he:=z183 (n:=n) (d:=D+3) M.at0.1;rw[decide_eq_false (by omega)] at he;have hs:=hF.2 (n:=n) (D:=D+4) (by omega) hn hi M.at0.1 M.at0.2.1 (by rw[M.ex];exact hex);rw[hr] at hs;rw[z8a];unfold z4f
     repeat(first|(with_reducible first|refine Wp.lett ?_|(apply Wp.obind;exact z6 _)|(refine y8 ?_ ?_;exact Bool.not_false))|((with_reducible first|apply Wp.callN|apply Wp.callK);(with_reducible assumption)))
     rw[hdyn];exact y2f hs M fun h' p k1 t1=>hbad e p h' rfl k1 t1
   |ok tj=>
    obtain⟨t,j⟩:=tj;rw[hr] at hb1;obtain⟨b1,b2⟩:=hb1;obtain⟨r,q1,q2,q3⟩:=z3ad hu hF hdyn k j (l++[t]) b2 (by omega) (by simp;omega);refine⟨r,.more (by omega) hr q1,?_,?_⟩
    ·cases r with
     |error e=>exact q2
     |ok tj2=>
      obtain⟨a1,a2⟩:=q2;exact⟨by omega,a2⟩
    ·intro n D f b r0 S h0 H kc kv T0 T1 z k7 Q hD hn hf g ks hex M hok hbad
     obtain⟨D,rfl⟩:∃D',D=D'+4:=⟨D - 4,by omega⟩
     cases f with
     |zero=>omega
     |succ f=>
      have he:=z183 (n:=n) (d:=D+3) M.at0.1;rw[decide_eq_false (by omega)] at he;have hs:=hF.2 (n:=n) (D:=D+4) (by omega) hn hi M.at0.1 M.at0.2.1 (by rw[M.ex];exact hex);rw[hr] at hs;rw[z8a];unfold z4f
      repeat(first|(with_reducible first|refine Wp.lett ?_|(apply Wp.obind;exact z6 _)|(refine y8 ?_ ?_;exact Bool.not_false))|((with_reducible first|apply Wp.callN|apply Wp.callK);(with_reducible assumption)))
      rw[hdyn];refine y25 hs M fun c T h2 kt M3=>?_
      (((with_reducible apply Wp.obind);(with_reducible exact z13 _)))
      refine y43 M3 g ks kt hex (by omega) fun kv' h' T0' g' ks' M4=>?_;exact q3 hD hn (by omega) g' ks' hex M4 hok hbad
theorem flat_ok{fid:Nat}{F:Nat→Res}(hu:u.length≤1000000)(hF:PartF u fid F)(hdyn:∀(call:zd) (b:Nat) (h:AHeap),z47e Tryd.prog call (AV.fn fid [.ptr b 0] []) [] h=call fid [.ptr b 0] h):∃r,FlatP F u [] 0 r∧Bnd u 0 r∧
  ∀{n D b:Nat} {h:AHeap},5≤D→300<n→u.length<n→Rd h b u 0→b<h.next→zb6 z28 h.ex=false→StepN b u h (world n D 44 [.ptr b 0,AV.fn fid [.ptr b 0] []] h) r:=by
 obtain⟨r,r1,r2,r3⟩:=z3ad hu hF hdyn (u.length+1) 0 [] (Nat.zero_le _) (by omega) (Nat.le_refl _);refine⟨r,r1,r2,?_⟩;intro n D b h hD hn hn2 k0 hb hx;obtain⟨D,rfl⟩:∃D',D=D'+5:=⟨D - 5,by omega⟩;refine y36 fun Q q1 q2=>?_;rw[z1f5];unfold z7d;refine y9 (Mem.one k0 hb) fun h1 Mx=>?_;rw[z10];have M1:=Mx.swap
 ((with_reducible refine yc (fun _ _=>?_)))
 rename_i k7 ek7;refine r3 (r0:=h.next) (by omega) hn (by omega) (GrowT.nil _ _) .nil hx M1 ?_ q2;intro l' j kc kv T0 T1 H' hr g ks M2;refine ye ek7 ?_;obtain⟨c,T,h2,e2,kt,M3⟩:=inRow_r (n:=n) (d:=D+2) (xs:=[_,_]) M2 g ks
 repeat(with_reducible first|(apply Wp.obind;exact z13 _)|(apply Wp.callN;assumption))
 refine(z8b M3 rfl kt).mono ?_
 rintro _ h3 ⟨c3,T3,rfl,kt3,M4⟩
 exact q1 _ _ _ _ _ hr kt3 M4
end
def dropJ:Res→Except Nat Nd
 | .ok (t,_)=>.ok t
 | .error q=>.error q
inductive TreeP (u:z11):Int→Except Nat Nd→Prop
 |lit {r:Res} (h:FlatP (z295 u) u [] 0 r):TreeP u 1 (dropJ r)
 |glob {r:Res} (h:FlatP (z346 u) u [] 0 r):TreeP u 2 (dropJ r)
 |re_bad {q:Nat} (h:AltP u [] 0 (.error q)):TreeP u 3 (.error q)
 |re_end {t:Nd} {j:Nat} (h:AltP u [] 0 (.ok (t,j))) (n:j≠u.length):TreeP u 3 (.error j)
 |re {t:Nd} (h:AltP u [] 0 (.ok (t,u.length))):TreeP u 3 (.ok t)
def StepT(b:Nat)(u:z11)(h:AHeap)(x:R):Except Nat Nd→Prop
 | .ok t=>∃c T h' p,x=some (.ret (.agg c),h')∧NodeT t c T∧Mem [b] h h' ((b,TRd,rdP u p)::T)
 | .error q=>∃h' p,x=some (.panic (z28a 6 q),h')∧Rd h' b u p∧Tch [b] h h'
section
variable {n d b p q i m:Nat}{h h0:AHeap}{u:z11}{Q:ARes→AHeap→Prop}{S:List Nat}{xs rs T T0 T1:List ze7}{w:List Nat}{x:R}{t:Nd}{c:List AV}{v kv:AV}{l:List Nd}{kc:List (List AV)}
theorem StepT.ok_of(kk:Wp x fun r h'=>∃c T p,r=.ret (.agg c)∧NodeT t c T∧Mem [b] h h' ((b,TRd,rdP u p)::T)):StepT b u h x (.ok t):=by
 obtain⟨_,h',e,c,T,p,rfl,k1,k2⟩:=kk;exact⟨c,T,h',p,e,k1,k2⟩
theorem StepT.err_of(kk:Wp x fun r h'=>r=.panic (z28a 6 q)∧∃p,Rd h' b u p∧Tch [b] h h'):StepT b u h x (.error q):=by
 obtain⟨_,h',e,rfl,p,k1,k2⟩:=kk;exact⟨h',p,e,k1,k2⟩
theorem end_r(k:Rd h b u p)(hp:p=u.length):world n (d+2) 47 [.ptr b 0] h=some (.ret (.tup []),h):=by
 have he:=z183 (n:=n) (d:=d) k;rw[decide_eq_true hp] at he;apply Wp.eq;rw[z143];unfold z60
 repeat(with_reducible first|refine y10 (fun _ _=>?_)|refine Wp.lett ?_|(apply Wp.obind;exact z6 _)|(refine y7 ?_ ?_;exact Bool.not_true)|(apply Wp.callN;assumption)|refine y26 (by assumption) ?_)
 exact Wp.ret ⟨rfl,rfl⟩
theorem end_bad(k:Rd h b u p)(hp:p≠u.length):world n (d+2) 47 [.ptr b 0] h=some (.panic (z28a 6 p),h):=by
 have he:=z183 (n:=n) (d:=d) k;rw[decide_eq_false hp] at he;apply Wp.eq;rw[z143];unfold z60;have hr:=z29e (n:=n) (d:=d) (h:=h) 6 p;have k0:RowH h b 97 [z19 u,.int .i64 (p:Int)]:=k;clear k
 repeat(first|(with_reducible first|refine y10 (fun _ _=>?_)|refine Wp.lett ?_)|((with_reducible apply Wp.obind);first|(with_reducible first|exact z5 _ _|exact z6 _|exact z12 _ _|exact z8 _ _ _)|((with_reducible apply y5);(with_reducible assumption);rfl))|(with_reducible refine y8 ?_ ?_;exact Bool.not_false)|((with_reducible first|apply Wp.callN|apply Wp.callK);(with_reducible assumption)))
 exact y19 hr ⟨rfl,rfl⟩
theorem z485(hu:u.length≤1000000)(kind:Int)(hk:kind=1∨kind=2∨kind=3):∃r,TreeP u kind r∧(∀q,r=.error q→q≤u.length)∧
  ∀{n D b:Nat} {h:AHeap},4*u.length+12≤D→300<n→u.length+5<n→Rd h b u 0→b<h.next→zb6 z28 h.ex=false→StepT b u h (world n D 37 [.ptr b 0,.int .i64 kind] h) r:=by
 rcases hk with rfl|rfl|rfl
 ·obtain ⟨r, r1, r2, r3⟩ := flat_ok hu (partL_f hu) dynL
  refine⟨_,.lit r1,?_,?_⟩
  ·intro q hh
   cases r with
   |error e=>
    cases hh;exact r2
   |ok tj=>cases hh
  ·intro n D b h hD hn hn2 k0 hb hx
   obtain⟨D,rfl⟩:∃D',D=D'+6:=⟨D - 6,by omega⟩
   cases r with
   |error e=>
    refine StepT.err_of ?_;rw[z42];unfold z26;refine y9 (Mem.one k0 hb) fun h1 Mx=>?_;have M1:=Mx.swap;have hs:=r3 (n:=n) (D:=D+5) (by omega) hn (by omega) M1.at0.1 M1.at0.2.1 (by rw[M1.ex];exact hx)
    repeat(first|(with_reducible refine Wp.lett ?_)|((with_reducible refine y7 ?_ ?_;apply z99);omega)|rw[z10])
    exact y2f hs M1 fun h' p k1 t1=>⟨rfl,p,k1,t1⟩
   |ok tj=>
    obtain⟨t,j⟩:=tj;refine StepT.ok_of ?_;rw[z42];unfold z26;refine y9 (Mem.one k0 hb) fun h1 Mx=>?_;have M1:=Mx.swap;have hs:=r3 (n:=n) (D:=D+5) (by omega) hn (by omega) M1.at0.1 M1.at0.2.1 (by rw[M1.ex];exact hx)
    repeat(first|(with_reducible refine Wp.lett ?_)|((with_reducible refine y7 ?_ ?_;apply z99);omega)|rw[z10])
    refine y25 hs M1 fun c T h2 kt M3=>?_
    (((with_reducible apply Wp.obind);(with_reducible exact z13 _)))
    refine(z8b M3 rfl kt).mono ?_
    rintro _ h3 ⟨c3,T3,rfl,kt3,M4⟩
    exact⟨c3,T3,j,rfl,kt3,M4⟩
 ·obtain ⟨r, r1, r2, r3⟩ := flat_ok hu (partG_f hu) dynG
  refine⟨_,.glob r1,?_,?_⟩
  ·intro q hh
   cases r with
   |error e=>
    cases hh;exact r2
   |ok tj=>cases hh
  ·intro n D b h hD hn hn2 k0 hb hx
   obtain⟨D,rfl⟩:∃D',D=D'+6:=⟨D - 6,by omega⟩
   cases r with
   |error e=>
    refine StepT.err_of ?_;rw[z42];unfold z26;refine y9 (Mem.one k0 hb) fun h1 Mx=>?_;have M1:=Mx.swap;have hs:=r3 (n:=n) (D:=D+5) (by omega) hn (by omega) M1.at0.1 M1.at0.2.1 (by rw[M1.ex];exact hx)
    repeat(first|(with_reducible refine Wp.lett ?_)|((with_reducible refine y8 ?_ ?_;apply z88);omega)|rw[z10])
    exact y2f hs M1 fun h' p k1 t1=>⟨rfl,p,k1,t1⟩
   |ok tj=>
    obtain⟨t,j⟩:=tj;refine StepT.ok_of ?_;rw[z42];unfold z26;refine y9 (Mem.one k0 hb) fun h1 Mx=>?_;have M1:=Mx.swap;have hs:=r3 (n:=n) (D:=D+5) (by omega) hn (by omega) M1.at0.1 M1.at0.2.1 (by rw[M1.ex];exact hx)
    repeat(first|(with_reducible refine Wp.lett ?_)|((with_reducible refine y8 ?_ ?_;apply z88);omega)|rw[z10])
    refine y25 hs M1 fun c T h2 kt M3=>?_
    (((with_reducible apply Wp.obind);(with_reducible exact z13 _)))
    refine(z8b M3 rfl kt).mono ?_
    rintro _ h3 ⟨c3,T3,rfl,kt3,M4⟩
    exact⟨c3,T3,j,rfl,kt3,M4⟩
 ·obtain ⟨r, r1, r2, r3⟩ := alts_ok hu u.length 0 (Nat.zero_le _) (by omega)
  cases r with
  |error e=>
   refine⟨_,.re_bad r1,fun q hh=>by cases hh;exact r2,?_⟩;intro n D b h hD hn hn2 k0 hb hx;obtain⟨D,rfl⟩:∃D',D=D'+6:=⟨D - 6,by omega⟩;refine StepT.err_of ?_;rw[z42];unfold z26;refine y9 (Mem.one k0 hb) fun h1 Mx=>?_;have M1:=Mx.swap;have hs:=r3 (n:=n) (D:=D+5) (by omega) hn hn2 M1.at0.1 M1.at0.2.1 (by rw[M1.ex];exact hx)
   repeat(first|(with_reducible refine Wp.lett ?_)|((with_reducible refine y8 ?_ ?_;apply z88);omega)|((with_reducible refine y7 ?_ ?_;apply z99);omega)|rw[z10])
   exact y2f hs M1 fun h' p k1 t1=>⟨rfl,p,k1,t1⟩
  |ok tj=>
   obtain⟨t,j⟩:=tj
   by_cases hj:j=u.length
   ·subst hj
    refine⟨_,.re r1,fun q hh=>(by cases hh),?_⟩;intro n D b h hD hn hn2 k0 hb hx;obtain⟨D,rfl⟩:∃D',D=D'+6:=⟨D - 6,by omega⟩;refine StepT.ok_of ?_;rw[z42];unfold z26;refine y9 (Mem.one k0 hb) fun h1 Mx=>?_;have M1:=Mx.swap;have hs:=r3 (n:=n) (D:=D+5) (by omega) hn hn2 M1.at0.1 M1.at0.2.1 (by rw[M1.ex];exact hx)
    repeat(first|(with_reducible refine Wp.lett ?_)|((with_reducible refine y8 ?_ ?_;apply z88);omega)|((with_reducible refine y7 ?_ ?_;apply z99);omega)|rw[z10])
    refine y25 hs M1 fun c T h2 kt M3=>?_
    (((with_reducible apply Wp.obind);(with_reducible exact z13 _)))
    refine y9 M3 fun h3 M4=>?_;rw[z10];refine y11 M4 kt.len rfl kt.one fun h4 M5=>?_;have he:=end_r (n:=n) (d:=D+3) M5.at1.1 rfl;refine Wp.callK he ?_;refine y16 M5 kt.len ?_;refine(z8b (z26e (xs:=[_]) (T0:=[_]) M5.swap) rfl kt).mono ?_
    rintro _ h3 ⟨c3,T3,rfl,kt3,M6⟩
    exact⟨c3,T3,_,rfl,kt3,M6⟩
   ·refine ⟨_, .re_end r1 hj, fun q hh => by cases hh; exact r2.2, ?_⟩
    intro n D b h hD hn hn2 k0 hb hx;obtain⟨D,rfl⟩:∃D',D=D'+6:=⟨D - 6,by omega⟩;refine StepT.err_of ?_;rw[z42];unfold z26;refine y9 (Mem.one k0 hb) fun h1 Mx=>?_;have M1:=Mx.swap;have hs:=r3 (n:=n) (D:=D+5) (by omega) hn hn2 M1.at0.1 M1.at0.2.1 (by rw[M1.ex];exact hx)
    repeat(first|(with_reducible refine Wp.lett ?_)|((with_reducible refine y8 ?_ ?_;apply z88);omega)|((with_reducible refine y7 ?_ ?_;apply z99);omega)|rw[z10])
    refine y25 hs M1 fun c T h2 kt M3=>?_
    (((with_reducible apply Wp.obind);(with_reducible exact z13 _)))
    refine y9 M3 fun h3 M4=>?_;rw[z10];refine y11 M4 kt.len rfl kt.one fun h4 M5=>?_;have he:=end_bad (n:=n) (d:=D+3) M5.at1.1 hj;exact y19 he ⟨rfl,_,M5.at1.1,M5.tch⟩
end
theorem z360{x:R}{v:AV}{h:AHeap}{kp k:AV→AHeap→R}{Q:ARes→AHeap→Prop}(e:x=some (.ret v,h))(hk:Wp (k v h) Q):Wp (z2e1 x kp k) Q:=by rw[e,z470];exact hk
theorem z361{x:R}{v:AV}{h:AHeap}{kp k:AV→AHeap→R}{Q:ARes→AHeap→Prop}(e:x=some (.panic v,h))(hk:Wp (kp v h) Q):Wp (z2e1 x kp k) Q:=by rw[e,z3b8];exact hk
theorem neqNil(h:AHeap):zc1 Tryd.prog h .neq 20 true (some .nifc) (some .nifc)=some (.val (.bool false),h):=by kernel_rfl
theorem neqPan(h:AHeap)(e:Int)(q:Nat):zc1 Tryd.prog h .neq 20 true (some (z28a e q)) (some .nifc)=some (.val (.bool true),h):=by kernel_rfl
theorem assertPan(h:AHeap)(e:Int)(q:Nat):z14e Tryd.prog h 106 true (some (z28a e q))=some (.val (.tup [.agg [.int .i64 e,.int .i64 (q:Int)],.bool true]),h):=by kernel_rfl
abbrev TPtr:Nat:=95
abbrev z2fe:Nat:=81
section
variable {n d pc rd ft tx mo:Nat}{h h0:AHeap}{u t:z11}{most:Int}{fc:List AV}{S:List Nat}{Q:ARes→AHeap→Prop}{ys:List ze7}
theorem z490{call:zd}{b:Nat}{H:AHeap}:z59 call n (.ptr b 0) .nifc H=some (.ret (.tup []),H):=by
 apply Wp.eq;unfold z59
 repeat(with_reducible first|refine y10 (fun _ _=>?_)|(apply Wp.obind;exact z6 _)|(refine y7 ?_ ?_;rfl)|(apply Wp.outK;exact neqNil _)|refine y26 (by assumption) ?_)
 exact Wp.ret ⟨rfl,rfl⟩
theorem z48f{call:zd}{b:Nat}{H:AHeap}{l:List AV}(hl:l.length=2)(Mx:Mem S h0 H ((b,z2fe,l)::ys))(e:Int)(q:Nat):∃H',z59 call n (.ptr b 0) (z28a e q) H=some (.ret (.tup []),H')∧Mem S h0 H' ((b,z2fe,[.int .i64 e,.int .i64 (q:Int)])::ys):=by
 apply Wp.ex;unfold z59
 repeat(first|(with_reducible apply Wp.obind;exact z6 _)|((with_reducible apply y16 Mx);rfl)|((with_reducible apply y11 Mx);rfl;rfl;(rfl);clear Mx;intro _ Mx)|((with_reducible apply y9 Mx);clear Mx;intro _ Mx)|(with_reducible first|refine y10 (fun _ _=>?_)|refine Wp.lett ?_|(apply Wp.obind;first|exact z13 _|exact zd9 _ _|exact zd8 _ _ _)|(refine y8 ?_ ?_;rfl)|(refine y7 ?_ ?_;exact Bool.not_true)|(apply Wp.outK;first|exact neqPan _ _ _|exact assertPan _ _ _)|refine y26 (by assumption) ?_)|rw[z10])
 refine y24 Mx rfl hl rfl (fun h' M'=>?_)
 repeat((with_reducible refine y26 (by assumption) ?_))
 exact Wp.ret ⟨rfl,M'.pop⟩
end
theorem dynT(call:zd)(a b c:Nat)(h:AHeap):z47e Tryd.prog call (AV.fn 36 [] [.ptr a 0,.ptr b 0,.ptr c 0]) [] h=call 36 [.ptr a 0,.ptr b 0,.ptr c 0] h:=by
 have e:z3b7 Tryd.prog h [] (some (AV.fn 36 [] [.ptr a 0,.ptr b 0,.ptr c 0]))=some (.call 36 [.ptr a 0,.ptr b 0,.ptr c 0],h):=by kernel_rfl
 unfold z47e;rw[e]
section
variable {n D d b p q i m:Nat}{h h0:AHeap}{u:z11}{Q:ARes→AHeap→Prop}{S:List Nat}{xs rs rs' T T0 T1:List ze7}{w:List Nat}{x:R}{t:Nd}{c:List AV}{v kv fv:AV}{l:List Nd}{kc:List (List AV)}
noncomputable abbrev z1c9(pc rd sp nd pt p:Nat)(u:z11)(kind:Int)(c:List AV):List ze7:=[(pc,TPtr,[.ptr rd 0]),(rd,TRd,rdP u p),(sp,z2fe,[.int .i64 0,.int .i64 0]),(nd,z28,c),(pt,41,[.int .i64 kind,z19 u])]
theorem t1_ok{pc rd sp nd pt:Nat}{kind:Int}{z:List AV}(hz:z.length=6)(hs:∀(h:AHeap),Rd h rd u 0→rd<h.next→zb6 z28 h.ex=false→StepT rd u h (world n D 37 [.ptr rd 0,.int .i64 kind] h) (.ok t))(M:Mem S h0 h (z1c9 pc rd sp nd pt 0 u kind z++xs))(hx:zb6 z28 h0.ex=false):
  ∃c T h' p,world n (D+1) 36 [.ptr pc 0,.ptr pt 0,.ptr nd 0] h=some (.ret (.tup []),h')∧NodeT t c T∧Mem S h0 h' (z1c9 pc rd sp nd pt p u kind c++(xs++T)):=by
 have Mx:Mem S h0 h ((pc,TPtr,[.ptr rd 0])::(rd,TRd,rdP u 0)::(sp,z2fe,[.int .i64 0,.int .i64 0])::(nd,z28,z)::(pt,41,[.int .i64 kind,z19 u])::xs):=M;obtain⟨c,T,h1,p,e1,kt,M1⟩:=hs h Mx.at1.1 Mx.at1.2.1 (by rw[Mx.ex];exact hx);have M2:Mem S h0 h1 ((rd,TRd,rdP u p)::(pc,TPtr,[.ptr rd 0])::(sp,z2fe,[.int .i64 0,.int .i64 0])::(nd,z28,z)::(pt,41,[.int .i64 kind,z19 u])::(xs++T)):=y3f (xs:=[_]) (ys:=[_]) Mx.swap M1
 suffices hK:Wp (world n (D+1) 36 [.ptr pc 0,.ptr pt 0,.ptr nd 0] h) fun r h'=>r=.ret (.tup [])∧Mem S h0 h' (z1c9 pc rd sp nd pt p u kind c++(xs++T)) by
  obtain⟨_,h',e,rfl,M'⟩:=hK;exact⟨c,T,h',p,e,kt,M'⟩
 rw[z1b1];unfold za8
 repeat(first|(with_reducible apply Wp.obind;first|exact z5 _ _|exact z8 _ _ _)|((with_reducible apply y21 Mx);rfl)|((with_reducible apply Wp.ld4 Mx);rfl)|(with_reducible first|(apply Wp.obind;exact z13 _)|(apply Wp.callK;assumption)))
 refine y45 M2 kt.len hz kt.one fun h2 M3=>?_;exact Wp.ret ⟨rfl,M3.swap⟩
theorem t1_bad{pc rd sp nd pt:Nat}{kind:Int}{z:List AV}(hs:∀(h:AHeap),Rd h rd u 0→rd<h.next→zb6 z28 h.ex=false→StepT rd u h (world n D 37 [.ptr rd 0,.int .i64 kind] h) (.error q))(M:Mem S h0 h (z1c9 pc rd sp nd pt 0 u kind z++xs))(hx:zb6 z28 h0.ex=false):
  ∃h' p,world n (D+1) 36 [.ptr pc 0,.ptr pt 0,.ptr nd 0] h=some (.panic (z28a 6 q),h')∧Mem S h0 h' (z1c9 pc rd sp nd pt p u kind z++xs):=by
 have Mx:Mem S h0 h ((pc,TPtr,[.ptr rd 0])::(rd,TRd,rdP u 0)::(sp,z2fe,[.int .i64 0,.int .i64 0])::(nd,z28,z)::(pt,41,[.int .i64 kind,z19 u])::xs):=M;obtain⟨h1,p,e1,k1,t1⟩:=hs h Mx.at1.1 Mx.at1.2.1 (by rw[Mx.ex];exact hx)
 suffices hK:Wp (world n (D+1) 36 [.ptr pc 0,.ptr pt 0,.ptr nd 0] h) fun r h'=>r=.panic (z28a 6 q)∧Mem S h0 h' (z1c9 pc rd sp nd pt p u kind z++xs) by
  obtain⟨_,h',e,rfl,M'⟩:=hK;exact⟨h',p,e,M'⟩
 rw[z1b1];unfold za8
 repeat(first|(with_reducible apply Wp.obind;first|exact z5 _ _|exact z8 _ _ _)|((with_reducible apply y21 Mx);rfl)|((with_reducible apply Wp.ld4 Mx);rfl))
 exact y19 e1 ⟨rfl,y18 (xs:=[_]) Mx t1 k1⟩
theorem z423:∀(l:List AV) (x:AV) (N:Nat),y1f N (l++[x])=true→AV.lo N x=true
 |[],x,N,h=>by
  have:(AV.lo N x&&y1f N [])=true:=h
  simpa [y1f] using this
 |y::l,x,N,h=>by
  have:(AV.lo N y&&y1f N (l++[x]))=true:=h;rw[Bool.and_eq_true] at this;exact z423 l x N this.2
theorem NodeT.low{N:Nat}(k:NodeT t c T)(hn:∀y∈T,N≤y.1)(hl:y1f N c=true):T=[]:=by
 cases k with
 |mk hw g ks=>
  rename_i op w kids kc kv T0 T1;have h2:=z423 (.int .i64 (op:Int)::z22 w) kv N hl
  rcases g.2 with⟨rfl,rfl,rfl⟩|⟨_,q,rfl,rfl⟩
  ·cases ks
   rfl
  ·have h3 := hn (q, z28, kc.flatten) (by simp)
   have h4:q<N:=Nat.le_of_ble_eq_true h2;exact absurd h3 (by show ¬N≤q;omega)
end
section
variable {n D d b p q i m:Nat}{h h0:AHeap}{u:z11}{Q:ARes→AHeap→Prop}{S:List Nat}{xs rs rs' T T0 T1:List ze7}{w:List Nat}{x:R}{t:Nd}{c:List AV}{v kv fv:AV}{l:List Nd}{kc:List (List AV)}
theorem z17c{pc rd sp nd pt:Nat}{kind:Int}{z:List AV}(hs:∀(h:AHeap),Rd h rd u 0→rd<h.next→zb6 z28 h.ex=false→StepT rd u h (world n D 37 [.ptr rd 0,.int .i64 kind] h) (.error q))(M:Mem S h0 h (z1c9 pc rd sp nd pt 0 u kind z++xs))(hx:zb6 z28 h0.ex=false):
  ∃h',world n (D+2) 35 [AV.fn 36 [] [.ptr pc 0,.ptr pt 0,.ptr nd 0]] h=some (.ret (.agg [.int .i64 6,.int .i64 (q:Int)]),h')∧∃p,Mem S h0 h' (z1c9 pc rd sp nd pt p u kind z++xs):=by
 apply Wp.ex;rw[z1c6];unfold zbe;refine y9 M fun h1 M1=>?_
 obtain⟨h2,p,e2,M2⟩:=t1_bad (n:=n) (D:=D) (xs:=xs++[(h.next,z2fe,[.int .i64 0,.int .i64 0])]) hs (M1.perm (by
  rw[←List.append_assoc];exact List.perm_append_comm (l₁:=z1c9 pc rd sp nd pt 0 u kind z++xs) (l₂:=[_]))) hx
 have M3:Mem S h0 h2 ((h.next,z2fe,[.int .i64 0,.int .i64 0])::(z1c9 pc rd sp nd pt p u kind z++xs)):=M2.perm (by
  rw[←List.append_assoc];exact List.perm_append_comm (l₁:=[_]) (l₂:=z1c9 pc rd sp nd pt p u kind z++xs))
 refine z361 ((dynT _ _ _ _ _).trans e2) ?_;rw[z10];obtain⟨h3,e3,M4⟩:=z48f (n:=n) (call:=world n (D+1)) rfl M3 6 q;refine Wp.callN e3 ?_;refine y16 M4 rfl ?_;exact Wp.ret ⟨rfl,p,M4.pop⟩
theorem z194{pc rd sp nd pt:Nat}{kind:Int}{z:List AV}(hz:z.length=6)(hs:∀(h:AHeap),Rd h rd u 0→rd<h.next→zb6 z28 h.ex=false→StepT rd u h (world n D 37 [.ptr rd 0,.int .i64 kind] h) (.ok t))(M:Mem S h0 h (z1c9 pc rd sp nd pt 0 u kind z++xs))(hx:zb6 z28 h0.ex=false):
  ∃c T h' p,world n (D+2) 35 [AV.fn 36 [] [.ptr pc 0,.ptr pt 0,.ptr nd 0]] h=some (.ret (.agg [.int .i64 0,.int .i64 0]),h')∧NodeT t c T∧Mem S h0 h' (z1c9 pc rd sp nd pt p u kind c++(xs++T)):=by
 suffices hK:Wp (world n (D+2) 35 [AV.fn 36 [] [.ptr pc 0,.ptr pt 0,.ptr nd 0]] h) fun r h'=>∃c T p,r=.ret (.agg [.int .i64 0,.int .i64 0])∧NodeT t c T∧Mem S h0 h' (z1c9 pc rd sp nd pt p u kind c++(xs++T)) by
  obtain⟨_,h',e,c,T,p,rfl,k1,k2⟩:=hK;exact⟨c,T,h',p,e,k1,k2⟩
 rw[z1c6];unfold zbe;refine y9 M fun h1 M1=>?_;obtain⟨c,T,h2,p,e2,kt,M2⟩:=t1_ok (n:=n) (D:=D) (xs:=[(h.next,z2fe,[.int .i64 0,.int .i64 0])]++xs) hz hs (M1.perm (List.perm_append_comm_assoc (z1c9 pc rd sp nd pt 0 u kind z) [_] xs)) hx
 have M3:Mem S h0 h2 ((h.next,z2fe,[.int .i64 0,.int .i64 0])::(z1c9 pc rd sp nd pt p u kind c++(xs++T))):=M2.perm (by
  rw[List.append_assoc];exact List.perm_append_comm_assoc [_] (z1c9 pc rd sp nd pt p u kind c) (xs++T))
 refine z360 ((dynT _ _ _ _ _).trans e2) ?_;clear M1 M2;have Mx:=M3;clear M3;rw[z10]
 repeat(first|((with_reducible apply y16 Mx);rfl)|((with_reducible apply y11 Mx);rfl;rfl;(rfl);clear Mx;intro _ Mx)|(with_reducible apply Wp.callN;exact z490))
 exact Wp.ret ⟨c,T,p,rfl,kt,Mx.pop⟩
theorem z487{kind:Int}(hk:¬(kind=1∨kind=2∨kind=3)):world n (D+1) 29 [.agg [.int .i64 kind,z19 u]] h=some (.ret (.tup [.agg (z96 0 z9b .nsl),.agg [.int .i64 2,.int .i64 0]]),h):=by
 apply Wp.eq;rw[z37];refine y3c ?_
 suffices hK:Wp (z14 (world n D) n [.int .i64 kind,z19 u] h) fun r h'=>r=.ret (.tup [.agg (z96 0 z9b .nsl),.agg [.int .i64 2,.int .i64 0]])∧Tch [] h h' from hK.mono fun r h' ⟨e,t⟩=>⟨t.above,by rw[e];rfl,e,rfl⟩
 unfold z14;have Mx:=Mem.nil [] h;have b3:((kind:Int) != 3)=true:=z184 (by omega)
 repeat(first|(with_reducible apply Wp.obind;first|exact z5 _ _|exact z8 _ _ _)|((with_reducible apply y16 Mx);rfl)|((with_reducible apply y11 Mx);rfl;rfl;(rfl);clear Mx;intro _ Mx)|((with_reducible apply y20 Mx);rfl)|((with_reducible apply y24 Mx);rfl;rfl;(rfl);clear Mx;intro _ Mx)|((with_reducible apply y1b Mx);rfl)|((with_reducible apply y9 Mx);clear Mx;intro _ Mx)|((with_reducible apply y15 Mx);(rfl);clear Mx;intro _ Mx)|(with_reducible first|refine yc (fun _ _=>?_)|refine Wp.lett ?_)|((with_reducible refine y8 ?_ ?_);first|(with_reducible assumption)|((with_reducible apply z184);omega))|(with_reducible refine ye (by assumption) ?_)|rw[z10])
 exact Wp.ret ⟨rfl,Mx.tch⟩
theorem z305(hu:u.length≤1000000){kind:Int}(hk:kind=1∨kind=2∨kind=3):(64<u.length→∀{n D:Nat} {h:AHeap},0≤D→300<n→zb6 z28 h.ex=false→world n (D+1) 29 [.agg [.int .i64 kind,z19 u]] h=some (.ret (.tup [.agg (z96 0 z9b .nsl),.agg [.int .i64 3,.int .i64 64]]),h))∧
  (u.length ≤ 64 → ∃ r, TreeP u kind r ∧ (∀ q, r = .error q → q ≤ u.length) ∧ ∀ {n D : Nat} {h : AHeap}, 300 ≤ D → 400 < n → zb6 z28 h.ex = false → match r with
   | .error q=>world n (D+3) 29 [.agg [.int .i64 kind,z19 u]] h=some (.ret (.tup [.agg (z96 0 z9b .nsl),.agg [.int .i64 6,.int .i64 (q:Int)]]),h)
   | .ok t=>∃c T h',world n (D+3) 29 [.agg [.int .i64 kind,z19 u]] h=some (.ret (.tup [.agg c,.agg [.int .i64 0,.int .i64 0]]),h')∧NodeT t c T∧Mem [] h h' T):=by
 have hk':=hk
 rcases hk' with rfl|rfl|rfl
 ·-- kind 1
  refine⟨?_,?_⟩
  ·intro l n D h hD hn hx
   apply Wp.eq;rw[z37];refine y3c ?_
   suffices hK:Wp (z14 (world n D) n [.int .i64 1,z19 u] h) fun r h'=>r=.ret (.tup [.agg (z96 0 z9b .nsl),.agg [.int .i64 3,.int .i64 64]])∧Tch [] h h' from hK.mono fun r h' ⟨e,t⟩=>⟨t.above,by rw[e];rfl,e,rfl⟩
   unfold z14;have ll:=z6a u;have Mx:=Mem.nil [] h
   repeat(first|(with_reducible apply Wp.obind;first|exact z5 _ _|exact z47 _|exact z8 _ _ _)|((with_reducible apply y16 Mx);rfl)|((with_reducible apply y11 Mx);rfl;rfl;(rfl);clear Mx;intro _ Mx)|((with_reducible apply y20 Mx);rfl)|((with_reducible apply y24 Mx);rfl;rfl;(rfl);clear Mx;intro _ Mx)|((with_reducible apply y1b Mx);rfl)|((with_reducible apply y9 Mx);clear Mx;intro _ Mx)|((with_reducible apply y15 Mx);(rfl);clear Mx;intro _ Mx)|(with_reducible first|refine yc (fun _ _=>?_)|refine Wp.lett ?_)|((with_reducible refine y8 ?_ ?_);((with_reducible first|apply decide_eq_true|apply z184);omega))|((with_reducible refine y7 ?_ ?_);first|(with_reducible rfl)|((with_reducible apply z16e);omega))|(with_reducible refine ye (by assumption) ?_)|rw[z10])
   exact Wp.ret ⟨rfl,Mx.tch⟩
  ·intro l
   obtain⟨r,r1,r2,r3⟩:=z485 hu 1 hk;refine⟨r,r1,r2,?_⟩;intro n D h hD hn hx;have hs:∀(rd:Nat) (h:AHeap),Rd h rd u 0→rd<h.next→zb6 z28 h.ex=false→StepT rd u h (world n D 37 [.ptr rd 0,.int .i64 1] h) r:=fun rd h k1 k2 k3=>r3 (by omega) (by omega) (by omega) k1 k2 k3
   cases r with
   |error q=>
    apply Wp.eq;rw[z37];refine y3c ?_
    suffices hK:Wp (z14 (world n (D+2)) n [.int .i64 1,z19 u] h) fun r h'=>r=.ret (.tup [.agg (z96 0 z9b .nsl),.agg [.int .i64 6,.int .i64 (q:Int)]])∧Tch [] h h' from hK.mono fun r h' ⟨e,t⟩=>⟨t.above,by rw[e];rfl,e,rfl⟩
    unfold z14;have ll:=z6a u;have Mx:=Mem.nil [] h
    repeat(first|(with_reducible apply Wp.obind;first|exact z5 _ _|exact z47 _|exact z8 _ _ _)|((with_reducible apply y11 Mx);rfl;rfl;(rfl);clear Mx;intro _ Mx)|((with_reducible apply y1b Mx);rfl)|((with_reducible apply y9 Mx);clear Mx;intro _ Mx)|((with_reducible apply y15 Mx);(rfl);clear Mx;intro _ Mx)|(with_reducible first|refine yc (fun _ _=>?_)|refine Wp.lett ?_)|((with_reducible refine y7 ?_ ?_);first|(with_reducible rfl)|((with_reducible first|apply decide_eq_false|apply z16e);omega))|(with_reducible refine ye (by assumption) ?_)|rw[z10])
    obtain⟨h2,e2,p2,M2⟩:=z17c (n:=n) (D:=D) (xs:=[]) (hs _) (by rw[List.append_nil];exact Mx) hx;refine Wp.callN e2 ?_;clear Mx;have Mx:=M2
    repeat(first|(with_reducible apply Wp.obind;exact z5 _ _)|((with_reducible apply y1b Mx);rfl)|((with_reducible apply y42 Mx);rfl)|((with_reducible apply y39 Mx);rfl;rfl;(rfl);clear Mx;intro _ Mx)|((with_reducible apply y3b Mx);rfl)|((with_reducible apply y45 Mx);rfl;rfl;(rfl);clear Mx;intro _ Mx)|((with_reducible refine Wp.chk ?_ ?_);focus ((repeat' (first|(with_reducible exact rfl)|(with_reducible apply z174)|((with_reducible apply y49 Mx);kernel_rfl;kernel_rfl)));done))|(with_reducible first|refine Wp.lett ?_|(apply Wp.obind;exact z13 _))|((with_reducible refine y8 ?_ ?_;apply z184);omega))
    exact Wp.ret ⟨rfl,Mx.tch⟩
   |ok t=>
    obtain⟨c,T,h',e,kt,M'⟩:∃c T h',z14 (world n (D+2)) n [.int .i64 1,z19 u] h=some (.ret (.tup [.agg c,.agg [.int .i64 0,.int .i64 0]]),h')∧NodeT t c T∧Mem [] h h' T:=by
     suffices hK:Wp (z14 (world n (D+2)) n [.int .i64 1,z19 u] h) fun r h'=>∃c T,r=.ret (.tup [.agg c,.agg [.int .i64 0,.int .i64 0]])∧NodeT t c T∧Mem [] h h' T by
      obtain⟨_,h',e,c,T,rfl,k1,k2⟩:=hK;exact⟨c,T,h',e,k1,k2⟩
     unfold z14;have ll:=z6a u;have Mx:=Mem.nil [] h
     repeat(first|(with_reducible apply Wp.obind;first|exact z5 _ _|exact z47 _|exact z8 _ _ _)|((with_reducible apply y11 Mx);rfl;rfl;(rfl);clear Mx;intro _ Mx)|((with_reducible apply y1b Mx);rfl)|((with_reducible apply y9 Mx);clear Mx;intro _ Mx)|((with_reducible apply y15 Mx);(rfl);clear Mx;intro _ Mx)|(with_reducible first|refine yc (fun _ _=>?_)|refine Wp.lett ?_)|((with_reducible refine y7 ?_ ?_);first|(with_reducible rfl)|((with_reducible first|apply decide_eq_false|apply z16e);omega))|(with_reducible refine ye (by assumption) ?_)|rw[z10])
     obtain⟨c,T,h2,p2,e2,kt,M2⟩:=z194 (n:=n) (D:=D) (xs:=[]) rfl (hs _) (by rw[List.append_nil];exact Mx) hx;refine Wp.callN e2 ?_;clear Mx;have Mx:=M2;have hl:=kt.len;have ho:=kt.one
     repeat(first|(with_reducible apply Wp.obind;exact z5 _ _)|((with_reducible apply y1b Mx);rfl)|((with_reducible apply y39 Mx);rfl;rfl;(rfl);clear Mx;intro _ Mx)|(with_reducible first|refine Wp.lett ?_|(apply Wp.obind;exact z13 _))|((with_reducible refine y7 ?_ ?_;apply z16e);omega))
     refine y3b Mx hl ?_
     repeat(((with_reducible apply y42 Mx);rfl))
     refine y45 Mx hl hl ho fun _ Mz=>?_;clear Mx;have Mx:=Mz;clear Mz
     repeat(first|((with_reducible apply y39 Mx);rfl;rfl;(rfl);clear Mx;intro _ Mx)|((with_reducible refine Wp.chk ?_ ?_);focus ((repeat' (first|(with_reducible exact rfl)|(with_reducible apply z174)|((with_reducible apply y49 Mx);kernel_rfl;kernel_rfl)));done)))
     refine y3b Mx hl ?_
     repeat(((with_reducible apply y42 Mx);rfl))
     exact Wp.ret ⟨c,T,rfl,kt,Mx.pop.pop.pop.pop.pop⟩
    have M2:=M'
    suffices hK:Wp (gcR h (z14 (world n (D+2)) n [.int .i64 1,z19 u] h)) fun r h'=>∃T,r=.ret (.tup [.agg c,.agg [.int .i64 0,.int .i64 0]])∧NodeT t c T∧Mem [] h h' T by
     obtain⟨_,h',e,T,rfl,k1,k2⟩:=hK;rw[←z37] at e;exact⟨c,T,h',e,k1,k2⟩
    refine y5c ⟨_,h',e,⟨T,rfl,kt,M'⟩,fun _ hl=>?_⟩
    have h1:y1f h.next c=true:=by
     have:(y1f h.next c&&(y1f h.next [.int .i64 0,.int .i64 0]&&y1f h.next []))=true:=hl;rw[Bool.and_eq_true] at this;exact this.1
    have hT:T=[]:=kt.low (fun y hy=>(M'.row y hy).2.2.resolve_left (by simp)) h1;subst hT;exact⟨[],rfl,kt,Mem.nil _ _⟩
 ·-- kind 2
  refine⟨?_,?_⟩
  ·intro l n D h hD hn hx
   apply Wp.eq;rw[z37];refine y3c ?_
   suffices hK:Wp (z14 (world n D) n [.int .i64 2,z19 u] h) fun r h'=>r=.ret (.tup [.agg (z96 0 z9b .nsl),.agg [.int .i64 3,.int .i64 64]])∧Tch [] h h' from hK.mono fun r h' ⟨e,t⟩=>⟨t.above,by rw[e];rfl,e,rfl⟩
   unfold z14;have ll:=z6a u;have Mx:=Mem.nil [] h
   repeat(first|(with_reducible apply Wp.obind;first|exact z5 _ _|exact z47 _|exact z8 _ _ _)|((with_reducible apply y16 Mx);rfl)|((with_reducible apply y11 Mx);rfl;rfl;(rfl);clear Mx;intro _ Mx)|((with_reducible apply y20 Mx);rfl)|((with_reducible apply y24 Mx);rfl;rfl;(rfl);clear Mx;intro _ Mx)|((with_reducible apply y1b Mx);rfl)|((with_reducible apply y9 Mx);clear Mx;intro _ Mx)|((with_reducible apply y15 Mx);(rfl);clear Mx;intro _ Mx)|(with_reducible first|refine yc (fun _ _=>?_)|refine Wp.lett ?_)|((with_reducible refine y8 ?_ ?_);((with_reducible first|apply decide_eq_true|apply z184);omega))|((with_reducible refine y7 ?_ ?_);first|(with_reducible rfl)|((with_reducible apply z16e);omega))|(with_reducible refine ye (by assumption) ?_)|rw[z10])
   exact Wp.ret ⟨rfl,Mx.tch⟩
  ·intro l
   obtain⟨r,r1,r2,r3⟩:=z485 hu 2 hk;refine⟨r,r1,r2,?_⟩;intro n D h hD hn hx;have hs:∀(rd:Nat) (h:AHeap),Rd h rd u 0→rd<h.next→zb6 z28 h.ex=false→StepT rd u h (world n D 37 [.ptr rd 0,.int .i64 2] h) r:=fun rd h k1 k2 k3=>r3 (by omega) (by omega) (by omega) k1 k2 k3
   cases r with
   |error q=>
    apply Wp.eq;rw[z37];refine y3c ?_
    suffices hK:Wp (z14 (world n (D+2)) n [.int .i64 2,z19 u] h) fun r h'=>r=.ret (.tup [.agg (z96 0 z9b .nsl),.agg [.int .i64 6,.int .i64 (q:Int)]])∧Tch [] h h' from hK.mono fun r h' ⟨e,t⟩=>⟨t.above,by rw[e];rfl,e,rfl⟩
    unfold z14;have ll:=z6a u;have Mx:=Mem.nil [] h
    repeat(first|(with_reducible apply Wp.obind;first|exact z5 _ _|exact z47 _|exact z8 _ _ _)|((with_reducible apply y11 Mx);rfl;rfl;(rfl);clear Mx;intro _ Mx)|((with_reducible apply y1b Mx);rfl)|((with_reducible apply y9 Mx);clear Mx;intro _ Mx)|((with_reducible apply y15 Mx);(rfl);clear Mx;intro _ Mx)|(with_reducible first|refine yc (fun _ _=>?_)|refine Wp.lett ?_)|((with_reducible refine y8 ?_ ?_);((with_reducible first|apply decide_eq_true|apply z184);omega))|((with_reducible refine y7 ?_ ?_);first|(with_reducible rfl)|((with_reducible first|apply decide_eq_false|apply z16e);omega))|(with_reducible refine ye (by assumption) ?_)|rw[z10])
    obtain⟨h2,e2,p2,M2⟩:=z17c (n:=n) (D:=D) (xs:=[]) (hs _) (by rw[List.append_nil];exact Mx) hx;refine Wp.callN e2 ?_;clear Mx;have Mx:=M2
    repeat(first|(with_reducible apply Wp.obind;exact z5 _ _)|((with_reducible apply y1b Mx);rfl)|((with_reducible apply y42 Mx);rfl)|((with_reducible apply y39 Mx);rfl;rfl;(rfl);clear Mx;intro _ Mx)|((with_reducible apply y3b Mx);rfl)|((with_reducible apply y45 Mx);rfl;rfl;(rfl);clear Mx;intro _ Mx)|((with_reducible refine Wp.chk ?_ ?_);focus ((repeat' (first|(with_reducible exact rfl)|(with_reducible apply z174)|((with_reducible apply y49 Mx);kernel_rfl;kernel_rfl)));done))|(with_reducible first|refine Wp.lett ?_|(apply Wp.obind;exact z13 _))|((with_reducible refine y8 ?_ ?_;apply z184);omega))
    exact Wp.ret ⟨rfl,Mx.tch⟩
   |ok t=>
    obtain⟨c,T,h',e,kt,M'⟩:∃c T h',z14 (world n (D+2)) n [.int .i64 2,z19 u] h=some (.ret (.tup [.agg c,.agg [.int .i64 0,.int .i64 0]]),h')∧NodeT t c T∧Mem [] h h' T:=by
     suffices hK:Wp (z14 (world n (D+2)) n [.int .i64 2,z19 u] h) fun r h'=>∃c T,r=.ret (.tup [.agg c,.agg [.int .i64 0,.int .i64 0]])∧NodeT t c T∧Mem [] h h' T by
      obtain⟨_,h',e,c,T,rfl,k1,k2⟩:=hK;exact⟨c,T,h',e,k1,k2⟩
     unfold z14;have ll:=z6a u;have Mx:=Mem.nil [] h
     repeat(first|(with_reducible apply Wp.obind;first|exact z5 _ _|exact z47 _|exact z8 _ _ _)|((with_reducible apply y11 Mx);rfl;rfl;(rfl);clear Mx;intro _ Mx)|((with_reducible apply y1b Mx);rfl)|((with_reducible apply y9 Mx);clear Mx;intro _ Mx)|((with_reducible apply y15 Mx);(rfl);clear Mx;intro _ Mx)|(with_reducible first|refine yc (fun _ _=>?_)|refine Wp.lett ?_)|((with_reducible refine y8 ?_ ?_);((with_reducible first|apply decide_eq_true|apply z184);omega))|((with_reducible refine y7 ?_ ?_);first|(with_reducible rfl)|((with_reducible first|apply decide_eq_false|apply z16e);omega))|(with_reducible refine ye (by assumption) ?_)|rw[z10])
     obtain⟨c,T,h2,p2,e2,kt,M2⟩:=z194 (n:=n) (D:=D) (xs:=[]) rfl (hs _) (by rw[List.append_nil];exact Mx) hx;refine Wp.callN e2 ?_;clear Mx;have Mx:=M2;have hl:=kt.len;have ho:=kt.one
     repeat(first|(with_reducible apply Wp.obind;exact z5 _ _)|((with_reducible apply y1b Mx);rfl)|((with_reducible apply y39 Mx);rfl;rfl;(rfl);clear Mx;intro _ Mx)|(with_reducible first|refine Wp.lett ?_|(apply Wp.obind;exact z13 _))|((with_reducible refine y7 ?_ ?_;apply z16e);omega))
     refine y3b Mx hl ?_
     repeat(((with_reducible apply y42 Mx);rfl))
     refine y45 Mx hl hl ho fun _ Mz=>?_;clear Mx;have Mx:=Mz;clear Mz
     repeat(first|((with_reducible apply y39 Mx);rfl;rfl;(rfl);clear Mx;intro _ Mx)|((with_reducible refine Wp.chk ?_ ?_);focus ((repeat' (first|(with_reducible exact rfl)|(with_reducible apply z174)|((with_reducible apply y49 Mx);kernel_rfl;kernel_rfl)));done)))
     refine y3b Mx hl ?_
     repeat(((with_reducible apply y42 Mx);rfl))
     exact Wp.ret ⟨c,T,rfl,kt,Mx.pop.pop.pop.pop.pop⟩
    have M2:=M'
    suffices hK:Wp (gcR h (z14 (world n (D+2)) n [.int .i64 2,z19 u] h)) fun r h'=>∃T,r=.ret (.tup [.agg c,.agg [.int .i64 0,.int .i64 0]])∧NodeT t c T∧Mem [] h h' T by
     obtain⟨_,h',e,T,rfl,k1,k2⟩:=hK;rw[←z37] at e;exact⟨c,T,h',e,k1,k2⟩
    refine y5c ⟨_,h',e,⟨T,rfl,kt,M'⟩,fun _ hl=>?_⟩
    have h1:y1f h.next c=true:=by
     have:(y1f h.next c&&(y1f h.next [.int .i64 0,.int .i64 0]&&y1f h.next []))=true:=hl;rw[Bool.and_eq_true] at this;exact this.1
    have hT:T=[]:=kt.low (fun y hy=>(M'.row y hy).2.2.resolve_left (by simp)) h1;subst hT;exact⟨[],rfl,kt,Mem.nil _ _⟩
 ·-- kind 3
  refine⟨?_,?_⟩
  ·intro l n D h hD hn hx
   apply Wp.eq;rw[z37];refine y3c ?_
   suffices hK:Wp (z14 (world n D) n [.int .i64 3,z19 u] h) fun r h'=>r=.ret (.tup [.agg (z96 0 z9b .nsl),.agg [.int .i64 3,.int .i64 64]])∧Tch [] h h' from hK.mono fun r h' ⟨e,t⟩=>⟨t.above,by rw[e];rfl,e,rfl⟩
   unfold z14;have ll:=z6a u;have Mx:=Mem.nil [] h
   repeat(first|(with_reducible apply Wp.obind;first|exact z5 _ _|exact z47 _|exact z8 _ _ _)|((with_reducible apply y16 Mx);rfl)|((with_reducible apply y11 Mx);rfl;rfl;(rfl);clear Mx;intro _ Mx)|((with_reducible apply y20 Mx);rfl)|((with_reducible apply y24 Mx);rfl;rfl;(rfl);clear Mx;intro _ Mx)|((with_reducible apply y1b Mx);rfl)|((with_reducible apply y9 Mx);clear Mx;intro _ Mx)|((with_reducible apply y15 Mx);(rfl);clear Mx;intro _ Mx)|(with_reducible first|refine yc (fun _ _=>?_)|refine Wp.lett ?_)|((with_reducible refine y8 ?_ ?_);((with_reducible first|apply decide_eq_true|apply z184);omega))|((with_reducible refine y7 ?_ ?_;apply z16e);omega)|(with_reducible refine ye (by assumption) ?_)|rw[z10])
   exact Wp.ret ⟨rfl,Mx.tch⟩
  ·intro l
   obtain⟨r,r1,r2,r3⟩:=z485 hu 3 hk;refine⟨r,r1,r2,?_⟩;intro n D h hD hn hx;have hs:∀(rd:Nat) (h:AHeap),Rd h rd u 0→rd<h.next→zb6 z28 h.ex=false→StepT rd u h (world n D 37 [.ptr rd 0,.int .i64 3] h) r:=fun rd h k1 k2 k3=>r3 (by omega) (by omega) (by omega) k1 k2 k3
   cases r with
   |error q=>
    apply Wp.eq;rw[z37];refine y3c ?_
    suffices hK:Wp (z14 (world n (D+2)) n [.int .i64 3,z19 u] h) fun r h'=>r=.ret (.tup [.agg (z96 0 z9b .nsl),.agg [.int .i64 6,.int .i64 (q:Int)]])∧Tch [] h h' from hK.mono fun r h' ⟨e,t⟩=>⟨t.above,by rw[e];rfl,e,rfl⟩
    unfold z14;have ll:=z6a u;have Mx:=Mem.nil [] h
    repeat(first|(with_reducible apply Wp.obind;first|exact z5 _ _|exact z47 _|exact z8 _ _ _)|((with_reducible apply y11 Mx);rfl;rfl;(rfl);clear Mx;intro _ Mx)|((with_reducible apply y1b Mx);rfl)|((with_reducible apply y9 Mx);clear Mx;intro _ Mx)|((with_reducible apply y15 Mx);(rfl);clear Mx;intro _ Mx)|(with_reducible first|refine yc (fun _ _=>?_)|refine Wp.lett ?_)|((with_reducible refine y8 ?_ ?_);((with_reducible first|apply decide_eq_true|apply z184);omega))|((with_reducible refine y7 ?_ ?_);((with_reducible first|apply decide_eq_false|apply z16e);omega))|(with_reducible refine ye (by assumption) ?_)|rw[z10])
    obtain⟨h2,e2,p2,M2⟩:=z17c (n:=n) (D:=D) (xs:=[]) (hs _) (by rw[List.append_nil];exact Mx) hx;refine Wp.callN e2 ?_;clear Mx;have Mx:=M2
    repeat(first|(with_reducible apply Wp.obind;exact z5 _ _)|((with_reducible apply y1b Mx);rfl)|((with_reducible apply y42 Mx);rfl)|((with_reducible apply y39 Mx);rfl;rfl;(rfl);clear Mx;intro _ Mx)|((with_reducible apply y3b Mx);rfl)|((with_reducible apply y45 Mx);rfl;rfl;(rfl);clear Mx;intro _ Mx)|((with_reducible refine Wp.chk ?_ ?_);focus ((repeat' (first|(with_reducible exact rfl)|(with_reducible apply z174)|((with_reducible apply y49 Mx);kernel_rfl;kernel_rfl)));done))|(with_reducible first|refine Wp.lett ?_|(apply Wp.obind;exact z13 _))|((with_reducible refine y8 ?_ ?_;apply z184);omega))
    exact Wp.ret ⟨rfl,Mx.tch⟩
   |ok t=>
    obtain⟨c,T,h',e,kt,M'⟩:∃c T h',z14 (world n (D+2)) n [.int .i64 3,z19 u] h=some (.ret (.tup [.agg c,.agg [.int .i64 0,.int .i64 0]]),h')∧NodeT t c T∧Mem [] h h' T:=by
     suffices hK:Wp (z14 (world n (D+2)) n [.int .i64 3,z19 u] h) fun r h'=>∃c T,r=.ret (.tup [.agg c,.agg [.int .i64 0,.int .i64 0]])∧NodeT t c T∧Mem [] h h' T by
      obtain⟨_,h',e,c,T,rfl,k1,k2⟩:=hK;exact⟨c,T,h',e,k1,k2⟩
     unfold z14;have ll:=z6a u;have Mx:=Mem.nil [] h
     repeat(first|(with_reducible apply Wp.obind;first|exact z5 _ _|exact z47 _|exact z8 _ _ _)|((with_reducible apply y11 Mx);rfl;rfl;(rfl);clear Mx;intro _ Mx)|((with_reducible apply y1b Mx);rfl)|((with_reducible apply y9 Mx);clear Mx;intro _ Mx)|((with_reducible apply y15 Mx);(rfl);clear Mx;intro _ Mx)|(with_reducible first|refine yc (fun _ _=>?_)|refine Wp.lett ?_)|((with_reducible refine y8 ?_ ?_);((with_reducible first|apply decide_eq_true|apply z184);omega))|((with_reducible refine y7 ?_ ?_);((with_reducible first|apply decide_eq_false|apply z16e);omega))|(with_reducible refine ye (by assumption) ?_)|rw[z10])
     obtain⟨c,T,h2,p2,e2,kt,M2⟩:=z194 (n:=n) (D:=D) (xs:=[]) rfl (hs _) (by rw[List.append_nil];exact Mx) hx;refine Wp.callN e2 ?_;clear Mx;have Mx:=M2;have hl:=kt.len;have ho:=kt.one
     repeat(first|(with_reducible apply Wp.obind;exact z5 _ _)|((with_reducible apply y1b Mx);rfl)|((with_reducible apply y39 Mx);rfl;rfl;(rfl);clear Mx;intro _ Mx)|(with_reducible first|refine Wp.lett ?_|(apply Wp.obind;exact z13 _))|((with_reducible refine y7 ?_ ?_;apply z16e);omega))
     refine y3b Mx hl ?_
     repeat(((with_reducible apply y42 Mx);rfl))
     refine y45 Mx hl hl ho fun _ Mz=>?_;clear Mx;have Mx:=Mz;clear Mz
     repeat(first|((with_reducible apply y39 Mx);rfl;rfl;(rfl);clear Mx;intro _ Mx)|((with_reducible refine Wp.chk ?_ ?_);focus ((repeat' (first|(with_reducible exact rfl)|(with_reducible apply z174)|((with_reducible apply y49 Mx);kernel_rfl;kernel_rfl)));done)))
     refine y3b Mx hl ?_
     repeat(((with_reducible apply y42 Mx);rfl))
     exact Wp.ret ⟨c,T,rfl,kt,Mx.pop.pop.pop.pop.pop⟩
    have M2:=M'
    suffices hK:Wp (gcR h (z14 (world n (D+2)) n [.int .i64 3,z19 u] h)) fun r h'=>∃T,r=.ret (.tup [.agg c,.agg [.int .i64 0,.int .i64 0]])∧NodeT t c T∧Mem [] h h' T by
     obtain⟨_,h',e,T,rfl,k1,k2⟩:=hK;rw[←z37] at e;exact⟨c,T,h',e,k1,k2⟩
    refine y5c ⟨_,h',e,⟨T,rfl,kt,M'⟩,fun _ hl=>?_⟩
    have h1:y1f h.next c=true:=by
     have:(y1f h.next c&&(y1f h.next [.int .i64 0,.int .i64 0]&&y1f h.next []))=true:=hl;rw[Bool.and_eq_true] at this;exact this.1
    have hT:T=[]:=kt.low (fun y hy=>(M'.row y hy).2.2.resolve_left (by simp)) h1;subst hT;exact⟨[],rfl,kt,Mem.nil _ _⟩
end
open Go.RowKit Abs
theorem ze6{a b:Nat}(ha:a<18446744073709551616):a&&&b<18446744073709551616:=Nat.lt_of_le_of_lt Nat.and_le_left ha
theorem z120{x y:Nat}(hx:x<18446744073709551616)(hy:y<18446744073709551616):z3bd .u64 (x:Int) (y:Int)=((x&&&y:Nat):Int):=by
 have e:(BitVec.ofInt 64 (x:Int)&&&BitVec.ofInt 64 (y:Int)).toNat=x&&&y:=by
  rw[BitVec.toNat_and,BitVec.toNat_ofInt,BitVec.toNat_ofInt]
  congr 1<;>omega
 unfold z3bd;show IntKind.u64.wrap (((BitVec.ofInt 64 (x:Int)&&&BitVec.ofInt 64 (y:Int)).toNat:Nat):Int)=_;rw[e,z8c];have:=ze6 (b:=y) hx;omega
def lackN(x y:Nat):Nat:=x ^^^ (x&&&y)
theorem z426(x y i:Nat):(lackN x y).testBit i=(x.testBit i&& !y.testBit i):=by
 unfold lackN;rw[Nat.testBit_xor,Nat.testBit_and]
 cases x.testBit i<;>cases y.testBit i<;>rfl
theorem z319{x y:Nat}(hx:x<18446744073709551616):lackN x y<18446744073709551616:=by
 unfold lackN;have:=Nat.xor_lt_two_pow (n:=64) (x:=x) (y:=x&&&y) (by omega) (by have:=ze6 (b:=y) hx;omega);omega
theorem z407{x y:Nat}(hx:x<18446744073709551616)(hy:y<18446744073709551616):z367 .u64 (x:Int) (y:Int)=((lackN x y:Nat):Int):=by
 have e:(BitVec.ofInt 64 (x:Int)&&& ~~~ BitVec.ofInt 64 (y:Int)).toNat=lackN x y:=by
  refine Nat.eq_of_testBit_eq fun i=>?_;rw[BitVec.toNat_and,Nat.testBit_and,z426];have e1:(BitVec.ofInt 64 (x:Int)).toNat=x:=by rw[BitVec.toNat_ofInt];omega
  have e2:(BitVec.ofInt 64 (y:Int)).toNat=y:=by rw[BitVec.toNat_ofInt];omega
  rw[e1]
  by_cases hi:i<64
  ·congr 1
   rw[BitVec.testBit_toNat,BitVec.getLsbD_not, ←BitVec.testBit_toNat,e2]
   simp[hi]
  ·rw[Nat.testBit_lt_two_pow (x:=x) (Nat.lt_of_lt_of_le hx (by have:=Nat.pow_le_pow_right (n:=2) (by decide) (show 64≤i by omega);omega)),Bool.false_and,Bool.false_and]
 unfold z367;show IntKind.u64.wrap (((BitVec.ofInt 64 (x:Int)&&& ~~~ BitVec.ofInt 64 (y:Int)).toNat:Nat):Int)=_;rw[e,z8c];have:=z319 (y:=y) hx;omega
theorem z3d0{x k:Nat}(hk:k<64):shrI .u64 (x:Int) (k:Int)=some ((x>>>k:Nat):Int):=by
 unfold shrI;rw[if_neg (by omega)]
 have e:min ((k:Int).toNat) IntKind.u64.bits=k:=by
  show min ((k:Int).toNat) 64=k;omega
 rw[e,Int.fdiv_eq_ediv_of_nonneg _ (Int.le_of_lt (Int.pow_pos (by decide))),Nat.shiftRight_eq_div_pow]
 push_cast
 rfl
theorem z37d{x k:Nat}(hx:x<18446744073709551616):x>>>k<18446744073709551616:=by
 rw[Nat.shiftRight_eq_div_pow];exact Nat.lt_of_le_of_lt (Nat.div_le_self _ _) hx
theorem z43e(x k:Nat):x>>>k&&&1=(x.testBit k).toNat:=by
 rw[Nat.and_one_is_mod,Nat.toNat_testBit,Nat.shiftRight_eq_div_pow]
theorem low_lt{m:Nat}(hm:m≠0):m&&&(m - 1)<m:=Nat.lt_of_le_of_lt Nat.and_le_right (by omega)
abbrev tzT:List Nat:=[0,1,56,2,57,49,28,3,61,58,42,50,38,29,17,4,62,47,59,36,45,43,51,22,53,39,33,30,24,18,12,5,63,55,48,27,60,41,37,16,46,35,44,21,52,32,23,11,54,26,40,15,34,20,31,10,25,14,19,9,13,8,7,6]
def tzC:List AV:=tzT.map fun (z:Nat)=>AV.int .u8 (z:Int)
def HasTz(h:AHeap):Prop:=h.get 0=some (.glob (T.put .e 0 tzC))∧0<h.next
theorem HasTz.tch{S:List Nat}{h h':AHeap}(k:HasTz h)(t:Tch S h h')(hS:0 ∉ S):HasTz h':=⟨by rw[t.2.2 _ k.2 hS];exact k.1,Nat.lt_of_lt_of_le k.2 t.1⟩
theorem tz_cell{h:AHeap}(k:HasTz h){t:Nat}{v:AV}(hv:tzC[t]? =some v):z9 h (.gptr 0 t)=some v:=by
 simp only[z9,k.1,z3da,hv]
def tzI(m:Nat):Nat:=(m&&&(18446744073709551616 - m)%18446744073709551616)*285870213051353865%18446744073709551616/288230376151711744
theorem z484(m:Nat):tzI m<64:=by
 unfold tzI;have:=Nat.mod_lt ((m&&&(18446744073709551616 - m)%18446744073709551616)*285870213051353865) (show 0<18446744073709551616 by decide);omega
def tzN(m:Nat):Nat:=tzT.getD (tzI m) 0
theorem tz_all:(List.range 64).all (fun t=>Nat.blt (tzT.getD t 0) 64)=true:=by kernel_rfl
theorem tz_one{t:Nat}(ht:t<64):tzC[t]? =some (.int .u8 ((tzT.getD t 0:Nat):Int))∧tzT.getD t 0<64:=by
 have:=List.all_eq_true.1 tz_all t (List.mem_range.2 ht);have hl:t<tzT.length:=ht;refine⟨?_,by simpa using this⟩;unfold tzC;rw[List.getElem?_map,List.getD_eq_getElem?_getD,List.getElem?_eq_getElem hl];rfl
theorem z483(m:Nat):tzN m<64:=(tz_one (z484 m)).2
section
variable {n d:Nat}{h:AHeap}
theorem idxA_g{n b o i:Nat}(h:i<n):z31a n 1 (.gptr b o) (i:Int)=some (.gptr b (o+i)):=by
 have e:Nat.blt i n=true:=by simpa using h
 show (match Nat.blt i n with|true=>some (AV.gptr b (o+i*1))|false=>none)=_;rw[e,Nat.mul_one]
theorem tz_w(hT:HasTz h){m:Nat}(hm:m<18446744073709551616)(h0:m≠0):world n (d+1) 42 [.int .u64 (m:Int)] h=some (.ret (.int .i64 (tzN m:Nat)),h):=by
 have:z31 (world n d) n (m:Int) h=some (.ret (.int .i64 (tzN m:Nat)),h):=by
  apply Wp.eq;unfold z31
  have e1:IntKind.u64.wrap (0 - (m:Int))=(((18446744073709551616 - m)%18446744073709551616:Nat):Int):=by
   rw[z8c];omega
  have e2:z3bd .u64 (m:Int) (((18446744073709551616 - m)%18446744073709551616:Nat):Int)=((m&&&(18446744073709551616 - m)%18446744073709551616:Nat):Int):=z120 hm (Nat.mod_lt _ (by decide))
  have e3:IntKind.u64.wrap (((m&&&(18446744073709551616 - m)%18446744073709551616:Nat):Int)*285870213051353865)=(((m&&&(18446744073709551616 - m)%18446744073709551616)*285870213051353865%18446744073709551616:Nat):Int):=by
   rw[z8c];rfl
  have e4:shrI .u64 (((m&&&(18446744073709551616 - m)%18446744073709551616)*285870213051353865%18446744073709551616:Nat):Int) 58=some ((tzI m:Nat):Int):=by
   rw[show (58:Int)=((58:Nat):Int) from rfl,z3d0 (by decide),Nat.shiftRight_eq_div_pow];rfl
  have e5:=idxA_g (b:=0) (o:=0) (z484 m);obtain⟨e6,e7⟩:=tz_one (z484 m);have e8:=tz_cell hT e6
  have e9:IntKind.i64.wrap ((tzN m:Nat):Int)=((tzN m:Nat):Int):=by
   have:=z483 m;rw[z335 (by omega) (by omega)]
  ((with_reducible refine Wp.lett ?_))
  refine y7 (z99 (by omega)) ?_;refine Wp.lett ?_;rw[e1];refine Wp.lett ?_;rw[e2];refine Wp.lett ?_;rw[e3];refine Wp.obind e4 ?_;refine Wp.obind e5 ?_;rw[Nat.zero_add];refine Wp.obind e8 ?_;refine Wp.obind (z5 _ _) ?_;refine Wp.lett ?_;show Wp (some (ARes.ret (AV.int .i64 (IntKind.i64.wrap ((tzN m:Nat):Int))),h)) _;rw[e9];exact Wp.ret ⟨rfl,rfl⟩
 rw[z162,this,z428 (Above.refl _) rfl]
end
abbrev TNet:Nat:=87
abbrev TBl:Nat:=89
abbrev TPc:Nat:=91
structure Nt where
 empty:Bool
 first:Nat
 last:Nat
 fo:List Nat
 ta:List Nat
structure NtOk (N:Nt):Prop where
 fl:N.fo.length=64
 tl:N.ta.length=256
 f:N.first<18446744073709551616
 l:N.last<18446744073709551616
 fs:∀x∈N.fo,x<18446744073709551616
 ts:∀x∈N.ta,x<18446744073709551616
noncomputable def netC(N:Nt):List AV:=.bool N.empty:: .int .u64 (N.first:Int):: .int .u64 (N.last:Int)::(z22 N.fo++z22 N.ta)
theorem zd2{l:List Nat}(h:∀x∈l,x<18446744073709551616)(i:Nat):l.getD i 0<18446744073709551616:=by
 rw[List.getD_eq_getElem?_getD];cases hx:l[i]? with
 |none=>decide
 |some x=>exact h x (List.mem_of_getElem? hx)
section
variable {N:Nt}
theorem z26d(k:NtOk N):(netC N).length=323:=by
 simp only[netC,List.length_cons,List.length_append,z65,k.fl,k.tl]
theorem net_fo(k:NtOk N){i:Nat}(hi:i<64):(netC N)[3+i]? =some (.int .u64 (N.fo.getD i 0:Int)):=
 z248 (pre:=[.bool N.empty,.int .u64 (N.first:Int),.int .u64 (N.last:Int)]) (by rw[k.fl];exact hi)
theorem z4a7(k:NtOk N){i:Nat}(hi:i<256):(netC N)[67+i]? =some (.int .u64 (N.ta.getD i 0:Int)):=by
 have:=z248 (pre:=.bool N.empty:: .int .u64 (N.first:Int):: .int .u64 (N.last:Int)::z22 N.fo) (post:=[]) (w:=N.ta) (i:=i) (by rw[k.tl];exact hi);rw[List.append_nil,show (AV.bool N.empty:: .int .u64 (N.first:Int):: .int .u64 (N.last:Int)::z22 N.fo).length=67 by simp only[List.length_cons,z65,k.fl]] at this;exact this
theorem z456(k:NtOk N){i x:Nat}(hi:i<64):(netC N).set (3+i) (.int .u64 (x:Int))=netC {N with fo:=N.fo.set i x}:=
 z2b2 (pre:=[.bool N.empty,.int .u64 (N.first:Int),.int .u64 (N.last:Int)]) (by rw[k.fl];exact hi)
theorem z314(k:NtOk N){i x:Nat}(hi:i<256):(netC N).set (67+i) (.int .u64 (x:Int))=netC {N with ta:=N.ta.set i x}:=by
 have:=z2b2 (pre:=.bool N.empty:: .int .u64 (N.first:Int):: .int .u64 (N.last:Int)::z22 N.fo) (post:=[]) (w:=N.ta) (i:=i) (x:=x) (by rw[k.tl];exact hi);rw[List.append_nil,List.append_nil,show (AV.bool N.empty:: .int .u64 (N.first:Int):: .int .u64 (N.last:Int)::z22 N.fo).length=67 by simp only[List.length_cons,z65,k.fl]] at this;exact this
end
def z3e4(g:Nat→Nat→Nat):Nat→List Nat→List Nat
 |_,[]=>[]
 |i,x::l=>g i x::z3e4 g (i+1) l
theorem z2a0(g:Nat→Nat→Nat):∀(l:List Nat) (i j:Nat),(z3e4 g i l)[j]? =(l[j]?).map (g (i+j))
 |[],_,_=>rfl
 |_::_,_,0=>rfl
 |_::l,i,j+1=>by
  show (z3e4 g (i+1) l)[j]? =_;rw[z2a0 g l (i+1) j,show i+1+j=i+(j+1) by omega];rfl
theorem z240(g:Nat→Nat→Nat):∀(l:List Nat) (i:Nat),(z3e4 g i l).length=l.length
 |[],_=>rfl
 |_::l,i=>by rw[z3e4,List.length_cons,List.length_cons,z240 g l (i+1)]
theorem z1e6{g:Nat→Nat→Nat}{l:List Nat}{i:Nat}(hl:∀x∈l,x<18446744073709551616)(hg:∀i x,x<18446744073709551616→g i x<18446744073709551616):∀x∈z3e4 g i l,x<18446744073709551616:=by
 intro x hx;obtain⟨j,hj⟩:=List.mem_iff_getElem?.1 hx;rw[z2a0] at hj;obtain⟨y,hy,rfl⟩:=Option.map_eq_some_iff.1 hj;exact hg _ _ (hl y (List.mem_of_getElem? hy))
def upd(g:Nat→Nat→Nat)(k:Nat)(l:List Nat):List Nat:=z3e4 (fun c x=>if c<k then g c x else x) 0 l
section
variable {g:Nat→Nat→Nat}{k:Nat}{l:List Nat}
theorem z20e(j:Nat):(upd g k l)[j]? =(l[j]?).map fun x=>if j<k then g j x else x:=by
 unfold upd;rw[z2a0,Nat.zero_add]
theorem z339:(upd g k l).length=l.length:=z240 _ _ _
theorem z338:upd g 0 l=l:=by
 refine List.ext_getElem? fun j=>?_;rw[z20e]
 simp
theorem z33b(h:l.length=k):upd g k l=z3e4 g 0 l:=by
 refine List.ext_getElem? fun j=>?_;rw[z20e,z2a0,Nat.zero_add];cases hx:l[j]? with
 |none=>rfl
 |some x=>
  have:j<l.length:=(List.getElem?_eq_some_iff.1 hx).1;rw[Option.map_some,Option.map_some,if_pos (by omega)]
theorem z33a:(upd g k l).getD k 0=l.getD k 0:=by
 rw[List.getD_eq_getElem?_getD,List.getD_eq_getElem?_getD,z20e]
 simp
theorem z3c9(h:k<l.length):(upd g k l).set k (g k (l.getD k 0))=upd g (k+1) l:=by
 refine List.ext_getElem? fun j=>?_;rw[List.getElem?_set,z20e,z20e,z339]
 by_cases hj:k=j
 ·subst hj
  rw[if_pos rfl,if_pos h,List.getElem?_eq_getElem h,Option.map_some,if_pos (by omega),List.getD_eq_getElem?_getD,List.getElem?_eq_getElem h];rfl
 ·rw [if_neg hj]
  congr 1
  funext x
  by_cases h2:j<k
  ·rw[if_pos h2,if_pos (by omega)]
  ·rw[if_neg h2,if_neg (by omega)]
theorem z40d(hg:g k (l.getD k 0)=l.getD k 0):upd g k l=upd g (k+1) l:=by
 refine List.ext_getElem? fun j=>?_;rw[z20e,z20e];cases hx:l[j]? with
 |none=>rfl
 |some x=>
  rw[Option.map_some,Option.map_some]
  by_cases hj:j=k
  ·subst hj
   rw[List.getD_eq_getElem?_getD,hx] at hg;rw[if_neg (by omega),if_pos (by omega)];exact congrArg some hg.symm
  ·by_cases h2 : j < k
   ·rw[if_pos h2,if_pos (by omega)]
   ·rw[if_neg h2,if_neg (by omega)]
theorem z2ac(hl:∀x∈l,x<18446744073709551616)(hg:∀i x,x<18446744073709551616→g i x<18446744073709551616):∀x∈upd g k l,x<18446744073709551616:=z1e6 hl fun i x hx=>by
 show (if i<k then g i x else x)<18446744073709551616
 split
 ·exact hg i x hx
 ·exact hx
end
def folG(those these i x:Nat):Nat:=if those.testBit i=true then x|||these else x
theorem z31e{those these:Nat}(h:these<18446744073709551616)(i x:Nat)(hx:x<18446744073709551616):folG those these i x<18446744073709551616:=by
 unfold folG
 split
 ·exact zd6 hx h
 ·exact hx
def Nt.follow(N:Nt)(those these:Nat):Nt:={N with fo:=z3e4 (folG those these) 0 N.fo}
theorem NtOk.follow{N:Nt}(k:NtOk N){those these:Nat}(h:these<18446744073709551616):NtOk (N.follow those these):=
 ⟨by show (z3e4 _ _ _).length=_;rw[z240];exact k.fl,k.tl,k.f,k.l,z1e6 k.fs fun i x hx=>z31e h i x hx,k.ts⟩
section
variable {N:Nt}{n d b nb these those:Nat}{v:AV}{h:AHeap}{Q:ARes→AHeap→Prop}
theorem z224{k3:AHeap→R}(hN:NtOk N)(hs:these<18446744073709551616)(ht:those<18446744073709551616)(hne:b≠nb):∀(m f i:Nat) (H:AHeap),m<f→i+m=64→RowH H b TBl [.ptr nb 0,v]→b<H.next→RowH H nb TNet (netC {N with fo:=upd (folG those these) i N.fo})→
  (∀H',RowH H' nb TNet (netC (N.follow those these))→Tch [nb] H H'→Wp (k3 H') Q)→Wp (z79 (.ptr b 0) (those:Int) (these:Int) k3 f (i:Int) H) Q
 |_,0,_,_,hf,_,_,_,_,_=>by omega
 |0,f+1,i,H,hf,hm,kb,hb,kn,hk=>by
  rw[zc2];unfold z6b
  repeat(first|(with_reducible refine Wp.lett ?_)|((with_reducible refine y7 ?_ ?_;apply decide_eq_false);omega))
  refine hk H ?_ (Tch.refl _ _);have:i=64:=by omega
  subst this;rw[z33b hN.fl] at kn;exact kn
 |m+1,f+1,i,H,hf,hm,kb,hb,kn,hk=>by
  rw[zc2];unfold z6b;have hi:i<64:=by omega
  have hN2:NtOk {N with fo:=upd (folG those these) i N.fo}:=⟨by show (upd _ _ _).length=_;rw[z339];exact hN.fl,hN.tl,hN.f,hN.l,z2ac hN.fs fun i x hx=>z31e hs i x hx,hN.ts⟩;have e1:=z3d0 (x:=those) hi
  have e2:z3bd .u64 ((those>>>i:Nat):Int) 1=(((those.testBit i).toNat:Nat):Int):=by
   rw[show (1:Int)=((1:Nat):Int) from rfl,z120 (z37d ht) (by decide),z43e]
  have el:(i:Int)+1=((i+1:Nat):Int):=by omega
  repeat(first|(with_reducible first|refine y10 (fun _ _=>?_)|refine Wp.lett ?_|(apply Wp.obind;exact e1))|((with_reducible refine y8 ?_ ?_);((with_reducible first|apply decide_eq_true|apply z88);omega)))
  rw[e2];cases hbit:those.testBit i with
  |false=>
   refine y7 rfl ?_
   repeat(first|((with_reducible refine yf ?_ ?_ ?_);omega;omega)|(with_reducible refine y26 (by assumption) ?_))
   rw[el];refine z224 hN hs ht hne m f (i+1) H (by omega) (by omega) kb hb ?_ hk;rw[←z40d (g:=folG those these) (k:=i) (l:=N.fo) (by unfold folG;rw[hbit,if_neg Bool.false_ne_true])];exact kn
  |true=>
   have c1:z9 H (.ptr b (0+0))=some (.ptr nb 0):=y5 kb rfl;have e3:=z17a (b:=nb) (o:=0+3) hi;have c2:z9 H (.ptr nb (0+3+i))=some (.int .u64 (N.fo.getD i 0:Int)):=y5 kn (by rw[Nat.zero_add,net_fo hN2 hi];show some (AV.int .u64 (((upd _ _ _).getD i 0:Nat):Int))=_;rw[z33a]);refine y8 rfl ?_
   repeat(with_reducible first|refine Wp.lett ?_|(apply Wp.obind;first|exact c1|exact e3|exact c2|exact z5 _ _|exact z12 _ _|exact z8 _ _ _))
   rw[z164 (zd2 hN.fs i) hs];refine Wp.st1 kn (by rw[z26d hN2];omega) rfl fun h' k' t' _=>?_;rw[Nat.zero_add,z456 hN2 hi] at k'
   repeat(first|((with_reducible refine yf ?_ ?_ ?_);omega;omega)|(with_reducible refine y26 (by assumption) ?_))
   rw[el];refine z224 hN hs ht hne m f (i+1) h' (by omega) (by omega) (kb.tch t' hb (by simpa using hne)) (Nat.lt_of_lt_of_le hb t'.1) ?_ fun H' k2 t2=>hk H' k2 (t'.trans t2);have hu:=z3c9 (g:=folG those these) (k:=i) (l:=N.fo) (by rw[hN.fl];exact hi);have hg:folG those these i (N.fo.getD i 0)=N.fo.getD i 0|||these:=by unfold folG;rw[hbit,if_pos rfl]
   rw[hg] at hu;rw[←hu];exact k'
theorem z355(hN:NtOk N)(hs:these<18446744073709551616)(ht:those<18446744073709551616)(hn:64<n)(hne:b≠nb)(kb:RowH h b TBl [.ptr nb 0,v])(hb:b<h.next)(kn:RowH h nb TNet (netC N)):∃h',world n (d+1) 40 [.ptr b 0,.int .u64 (those:Int),.int .u64 (these:Int)] h=some (.ret (.tup []),h')∧RowH h' nb TNet (netC (N.follow those these))∧Tch [nb] h h':=by
 apply Wp.ex;rw[z1f6];unfold z7e
 ((with_reducible refine y10 (fun _ _=>?_)))
 rename_i k3 ek3;refine z224 hN hs ht hne 64 n 0 h (by omega) rfl kb hb (by rw[z338];exact kn) fun H' k2 t2=>?_
 repeat((with_reducible refine y26 (by assumption) ?_))
 exact Wp.ret ⟨rfl,k2,t2⟩
end
def inW(w:List Nat)(i:Nat):Bool:=(w.getD (i/64) 0).testBit (i%64)
def bitN(u:Nat):Nat:=if u<64 then 2 ^ u else 0
theorem z1f1(u:Nat):bitN u<18446744073709551616:=by
 unfold bitN
 split
 ·exact z188 (by assumption)
 ·decide
theorem shlI_bit{u:Nat}:shlI .u64 1 (u:Int)=some ((bitN u:Nat):Int):=by
 unfold bitN
 by_cases h:u<64
 ·rw [if_pos h]
  exact z33d h
 ·rw [if_neg h]
  unfold shlI;rw[if_neg (by omega)]
  have e:min ((u:Int).toNat) IntKind.u64.bits=64:=by
   show min ((u:Int).toNat) 64=64;omega
  rw[e,z8c];rfl
def plG(w:List Nat)(bit i x:Nat):Nat:=if inW w i=true then x|||bit else x
theorem z384{w:List Nat}{bit:Nat}(h:bit<18446744073709551616)(i x:Nat)(hx:x<18446744073709551616):plG w bit i x<18446744073709551616:=by
 unfold plG
 split
 ·exact zd6 hx h
 ·exact hx
def Nt.place(N:Nt)(w:List Nat)(bit:Nat):Nt:={N with ta:=z3e4 (plG w bit) 0 N.ta}
theorem NtOk.place{N:Nt}(k:NtOk N){w:List Nat}{bit:Nat}(h:bit<18446744073709551616):NtOk (N.place w bit):=
 ⟨k.fl,by show (z3e4 _ _ _).length=_;rw[z240];exact k.tl,k.f,k.l,k.fs,z1e6 k.ts fun i x hx=>z384 h i x hx⟩
structure Pc where
 empty:Bool
 first:Nat
 last:Nat
structure PcOk (p:Pc):Prop where
 f:p.first<18446744073709551616
 l:p.last<18446744073709551616
def pcC(p:Pc):List AV:=[.bool p.empty,.int .u64 (p.first:Int),.int .u64 (p.last:Int)]
def behN(p q:Pc):Pc:=⟨p.empty&&q.empty,if p.empty=true then p.first|||q.first else p.first,if q.empty=true then q.last|||p.last else q.last⟩
theorem behN_ok{p q:Pc}(a:PcOk p)(b:PcOk q):PcOk (behN p q):=by
 constructor
 ·show (if p.empty = true then _ else _) < _
  split
  ·exact zd6 a.f b.f
  ·exact a.f
 ·show (if q.empty = true then _ else _) < _
  split
  ·exact zd6 b.l a.l
  ·exact b.l
theorem y38{h:AHeap}{b c:Nat}{e f:TypeId}{l m:List AV}(k1:RowH h b e l)(h1:b<h.next)(k2:RowH h c f m)(h2:c<h.next)(hne:b≠c):Mem [b,c] h h [(b,e,l),(c,f,m)]:=
 ⟨by simpa using ⟨⟨k1,h1⟩,k2,h2⟩,by simpa using hne,Tch.refl _ _⟩
section
variable {N:Nt}{n d b nb used:Nat}{v:AV}{h:AHeap}{Q:ARes→AHeap→Prop}{w:List Nat}{p q:Pc}
theorem z263{k25:AHeap→R}{pb bit:Nat}{e:TypeId}(hN:NtOk N)(hw:WordsOk w)(hs:bit<18446744073709551616)(hne:b≠nb)(hnp:pb≠nb):∀(m f i:Nat) (H:AHeap),m<f→i+m=256→RowH H b TBl [.ptr nb 0,v]→b<H.next→RowH H pb e (z22 w)→pb<H.next→RowH H nb TNet (netC {N with ta:=upd (plG w bit) i N.ta})→
  (∀H',RowH H' nb TNet (netC (N.place w bit))→Tch [nb] H H'→Wp (k25 H') Q)→Wp (z84 (.ptr b 0) (.ptr pb 0) (bit:Int) k25 f (i:Int) H) Q
 |_,0,_,_,hf,_,_,_,_,_,_,_=>by omega
 |0,f+1,i,H,hf,hm,kb,hb,kp,hp,kn,hk=>by
  rw[zd4];unfold z78
  repeat(first|(with_reducible refine Wp.lett ?_)|((with_reducible refine y7 ?_ ?_;apply decide_eq_false);omega))
  refine hk H ?_ (Tch.refl _ _);have:i=256:=by omega
  subst this;rw[z33b hN.tl] at kn;exact kn
 |m+1,f+1,i,H,hf,hm,kb,hb,kp,hp,kn,hk=>by
  rw[zd4];unfold z78;have hi:i<256:=by omega
  have hi4:i/64<4:=by omega
  have hN2:NtOk {N with ta:=upd (plG w bit) i N.ta}:=⟨hN.fl,by show (upd _ _ _).length=_;rw[z339];exact hN.tl,hN.f,hN.l,hN.fs,z2ac hN.ts fun i x hx=>z384 hs i x hx⟩;have q1:=z492 (c:=i) (by omega);have q2:=z17a (b:=pb) (o:=0) hi4;have q3:=z48e (c:=i);have g1:=z248 (pre:=[]) (post:=[]) (w:=w) (i:=i/64) (by rw[hw.len];exact hi4);rw[List.append_nil,List.nil_append,List.length_nil] at g1;have q4:z9 H (.ptr pb (0+i/64))=some (.int .u64 ((w.getD (i/64) 0:Nat):Int)):=y5 kp g1;have e1:=z3d0 (x:=w.getD (i/64) 0) (Nat.mod_lt i (show 0<64 by decide))
  have e2:z3bd .u64 ((w.getD (i/64) 0>>>(i%64):Nat):Int) 1=(((inW w i).toNat:Nat):Int):=by
   rw[show (1:Int)=((1:Nat):Int) from rfl,z120 (z37d (hw.get _)) (by decide),z43e];rfl
  have el:(i:Int)+1=((i+1:Nat):Int):=by omega
  repeat(first|(with_reducible first|refine y10 (fun _ _=>?_)|refine Wp.lett ?_|(apply Wp.obind;first|exact q1|exact q2|exact q3|exact q4|exact e1|exact z5 _ _))|((with_reducible refine y8 ?_ ?_);((with_reducible first|apply decide_eq_true|apply z88);omega)))
  rw[e2];cases hbit:inW w i with
  |false=>
   refine y7 rfl ?_
   repeat(first|((with_reducible refine yf ?_ ?_ ?_);omega;omega)|(with_reducible refine y26 (by assumption) ?_))
   rw[el];refine z263 hN hw hs hne hnp m f (i+1) H (by omega) (by omega) kb hb kp hp ?_ hk;rw[←z40d (g:=plG w bit) (k:=i) (l:=N.ta) (by unfold plG;rw[hbit,if_neg Bool.false_ne_true])];exact kn
  |true=>
   have c1:z9 H (.ptr b (0+0))=some (.ptr nb 0):=y5 kb rfl;have e3:=z17a (b:=nb) (o:=0+67) hi;have c2:z9 H (.ptr nb (0+67+i))=some (.int .u64 (N.ta.getD i 0:Int)):=y5 kn (by rw[Nat.zero_add,z4a7 hN2 hi];show some (AV.int .u64 (((upd _ _ _).getD i 0:Nat):Int))=_;rw[z33a]);refine y8 rfl ?_
   repeat(with_reducible first|refine Wp.lett ?_|(apply Wp.obind;first|exact c1|exact e3|exact c2|exact z5 _ _|exact z12 _ _|exact z8 _ _ _))
   rw[z164 (zd2 hN.ts i) hs];refine Wp.st1 kn (by rw[z26d hN2];omega) rfl fun h' k' t' _=>?_;rw[Nat.zero_add,z314 hN2 hi] at k'
   repeat(first|((with_reducible refine yf ?_ ?_ ?_);omega;omega)|(with_reducible refine y26 (by assumption) ?_))
   rw[el];refine z263 hN hw hs hne hnp m f (i+1) h' (by omega) (by omega) (kb.tch t' hb (by simpa using hne)) (Nat.lt_of_lt_of_le hb t'.1) (kp.tch t' hp (by simpa using hnp)) (Nat.lt_of_lt_of_le hp t'.1) ?_ fun H' k2 t2=>hk H' k2 (t'.trans t2);have hu:=z3c9 (g:=plG w bit) (k:=i) (l:=N.ta) (by rw[hN.tl];exact hi);have hg:plG w bit i (N.ta.getD i 0)=N.ta.getD i 0|||bit:=by unfold plG;rw[hbit,if_pos rfl]
   rw[hg] at hu;rw[←hu];exact k'
theorem place_r(hN:NtOk N)(hw:WordsOk w)(hn:256<n)(hu:used<1000000)(hne:b≠nb)(kb:RowH h b TBl [.ptr nb 0,.int .i64 (used:Int)])(hb:b<h.next)(kn:RowH h nb TNet (netC N))(hnb:nb<h.next):
  ∃h',world n (d+1) 38 [.ptr b 0,.agg (z22 w)] h=some (.ret (.agg (pcC ⟨false,bitN used,bitN used⟩)),h')∧RowH h' b TBl [.ptr nb 0,.int .i64 ((used+1:Nat):Int)]∧RowH h' nb TNet (netC (N.place w (bitN used)))∧Tch [b,nb] h h':=by
 apply Wp.ex;rw[z20b];unfold z8d;have Mx:=y38 kb hb kn hnb hne;have o1:=z1e0 w;have el:(used:Int)+1=((used+1:Nat):Int):=by omega
 refine y15 Mx o1 fun h1 M1=>?_;clear Mx;have Mx:=M1;clear M1;have sh:=shlI_bit (u:=used)
 repeat(first|(with_reducible apply Wp.obind;first|exact z5 _ _|exact z12 _ _|exact z8 _ _ _)|((with_reducible apply y1b Mx);rfl)|((with_reducible apply Wp.ms2 Mx);exact Nat.le_of_ble_eq_true rfl;rfl;clear Mx;intro _ Mx)|((with_reducible apply y9 Mx);clear Mx;intro _ Mx)|(with_reducible refine y10 (fun _ _=>?_))|((with_reducible refine yf ?_ ?_ ?_);omega;omega)|(with_reducible apply Wp.obind;exact sh))
 rename_i k25 ek25;obtain⟨kp,hp,_⟩:=Mx.at1;obtain⟨kb2,hb2,_⟩:=Mx.at2;obtain⟨kn2,hn2,_⟩:=Mx.at3;have ap:=Mx.apart;simp only[List.map_cons,List.map_nil,List.nodup_cons,List.mem_cons,List.not_mem_nil,or_false,not_or] at ap;refine z263 hN hw (z1f1 used) hne ap.2.1.2 256 n 0 _ (by omega) rfl kb2 hb2 kp hp (by rw[z338];exact kn2) fun H' k2 t2=>?_;have M2:=y18 (xs:=[_,_,_]) Mx t2 k2;clear Mx;have Mx:=M2;clear M2;rw[ek25];simp only[List.cons_append,List.nil_append] at Mx
 repeat(first|((with_reducible apply y16 Mx);rfl)|((with_reducible apply y11 Mx);rfl;rfl;(rfl);clear Mx;intro _ Mx)|rw[z10])
 refine Wp.ret ⟨rfl,?_,Mx.at3.1,Mx.tch⟩;have:=Mx.at2.1;rw[el] at this;exact this
theorem z499(p:Pc):(pcC p).all AV.one=true:=rfl
theorem behind_r(hN:NtOk N)(hp:PcOk p)(hq:PcOk q)(hn:64<n)(hne:b≠nb)(kb:RowH h b TBl [.ptr nb 0,v])(hb:b<h.next)(kn:RowH h nb TNet (netC N))(hnb:nb<h.next):
  ∃h',world n (d+2) 39 [.ptr b 0,.agg (pcC p),.agg (pcC q)] h=some (.ret (.agg (pcC (behN p q))),h')∧RowH h' b TBl [.ptr nb 0,v]∧RowH h' nb TNet (netC (N.follow p.last q.first))∧Tch [b,nb] h h':=by
 apply Wp.ex;rw[z1f7];unfold z7f;have Mx:=y38 kb hb kn hnb hne;refine y15 Mx (z499 p) fun h1 M1=>?_;refine y15 M1 (z499 q) fun h2 M2=>?_;clear Mx M1;have Mx:=M2;clear M2;have e1:=fun (H:AHeap) (M:Mem [b,nb] h H ((h2.next,TPc,[.bool false,.int .u64 0,.int .u64 0])::(h1.next,TPc,pcC q)::(h.next,TPc,pcC p)::(b,TBl,[.ptr nb 0,v])::[(nb,TNet,netC N)]))=>z355 (n:=n) (d:=d) (h:=H) hN hq.f hp.l hn hne M.at3.1 M.at3.2.1 M.at4.1;unfold pcC at Mx e1
 repeat(first|(with_reducible apply Wp.obind;first|exact z5 _ _|exact z8 _ _ _)|((with_reducible apply y30 Mx);rfl)|((with_reducible apply y1b Mx);rfl)|((with_reducible apply y9 Mx);clear Mx;intro _ Mx)|rw[z10])
 refine Wp.cl4 (e1 _ Mx) Mx fun h3 M3=>?_;clear Mx;have Mx:=M3;clear M3;have oq:=z164 hq.l hp.l;have op:=z164 hp.f hq.f;cases hpe:p.empty with
 |false=>
  cases hqe:q.empty with
  |false=>
   rw[hpe,hqe] at Mx
   repeat(first|(with_reducible apply Wp.obind;first|exact z5 _ _|exact z6 _|exact z8 _ _ _)|((with_reducible apply y16 Mx);rfl)|((with_reducible apply y11 Mx);rfl;rfl;(rfl);clear Mx;intro _ Mx)|((with_reducible apply y30 Mx);rfl)|((with_reducible apply y20 Mx);rfl)|((with_reducible apply y24 Mx);rfl;rfl;(rfl);clear Mx;intro _ Mx)|((with_reducible apply y1b Mx);rfl)|((with_reducible apply y5b Mx);rfl)|((with_reducible apply y9 Mx);clear Mx;intro _ Mx)|(with_reducible first|(first|refine y10 (fun _ _=>?_)|refine yc (fun _ _=>?_))|(refine y7 ?_ ?_;rfl)|(first|refine y26 (by assumption) ?_|refine ye (by assumption) ?_))|rw[z10])
   exact Wp.ret ⟨by unfold pcC behN;rw[hpe,hqe];rfl,Mx.at4.1,Mx.at5.1,Mx.tch⟩
  |true=>
   rw[hpe,hqe] at Mx
   repeat(first|(with_reducible apply Wp.obind;first|exact z5 _ _|exact z6 _|exact z8 _ _ _)|((with_reducible apply y21 Mx);rfl)|((with_reducible apply y16 Mx);rfl)|((with_reducible apply y41 Mx);exact Nat.le_of_ble_eq_true rfl;rfl;clear Mx;intro _ Mx)|((with_reducible apply y11 Mx);rfl;rfl;(rfl);clear Mx;intro _ Mx)|((with_reducible apply y30 Mx);rfl)|((with_reducible apply y20 Mx);rfl)|((with_reducible apply y24 Mx);rfl;rfl;(rfl);clear Mx;intro _ Mx)|((with_reducible apply y1b Mx);rfl)|((with_reducible apply y5b Mx);rfl)|((with_reducible apply y9 Mx);clear Mx;intro _ Mx)|(with_reducible first|(first|refine y10 (fun _ _=>?_)|refine yc (fun _ _=>?_))|refine Wp.lett ?_|(refine y8 ?_ ?_;rfl)|(refine y7 ?_ ?_;rfl)|(first|refine y26 (by assumption) ?_|refine ye (by assumption) ?_))|rw[z10])
   rw[oq];exact Wp.ret ⟨by unfold pcC behN;rw[hpe,hqe];rfl,Mx.at4.1,Mx.at5.1,Mx.tch⟩
 |true=>
  cases hqe:q.empty with
  |false=>
   rw[hpe,hqe] at Mx
   repeat(first|(with_reducible apply Wp.obind;first|exact z5 _ _|exact z6 _|exact z8 _ _ _)|((with_reducible apply y21 Mx);rfl)|((with_reducible apply y16 Mx);rfl)|((with_reducible apply y41 Mx);exact Nat.le_of_ble_eq_true rfl;rfl;clear Mx;intro _ Mx)|((with_reducible apply y11 Mx);rfl;rfl;(rfl);clear Mx;intro _ Mx)|((with_reducible apply y30 Mx);rfl)|((with_reducible apply y20 Mx);rfl)|((with_reducible apply y24 Mx);rfl;rfl;(rfl);clear Mx;intro _ Mx)|((with_reducible apply y1b Mx);rfl)|((with_reducible apply y5b Mx);rfl)|((with_reducible apply y9 Mx);clear Mx;intro _ Mx)|(with_reducible first|(first|refine y10 (fun _ _=>?_)|refine yc (fun _ _=>?_))|refine Wp.lett ?_|(refine y8 ?_ ?_;rfl)|(refine y7 ?_ ?_;rfl)|(first|refine y26 (by assumption) ?_|refine ye (by assumption) ?_))|rw[z10])
   rw[op];exact Wp.ret ⟨by unfold pcC behN;rw[hpe,hqe];rfl,Mx.at4.1,Mx.at5.1,Mx.tch⟩
  |true=>
   rw[hpe,hqe] at Mx
   repeat(first|(with_reducible apply Wp.obind;first|exact z5 _ _|exact z6 _|exact z8 _ _ _)|((with_reducible apply y21 Mx);rfl)|((with_reducible apply y16 Mx);rfl)|((with_reducible apply y41 Mx);exact Nat.le_of_ble_eq_true rfl;rfl;clear Mx;intro _ Mx)|((with_reducible apply y11 Mx);rfl;rfl;(rfl);clear Mx;intro _ Mx)|((with_reducible apply y30 Mx);rfl)|((with_reducible apply y20 Mx);rfl)|((with_reducible apply y24 Mx);rfl;rfl;(rfl);clear Mx;intro _ Mx)|((with_reducible apply y1b Mx);rfl)|((with_reducible apply y5b Mx);rfl)|((with_reducible apply y9 Mx);clear Mx;intro _ Mx)|(with_reducible first|(first|refine y10 (fun _ _=>?_)|refine yc (fun _ _=>?_))|refine Wp.lett ?_|(refine y8 ?_ ?_;rfl)|(first|refine y26 (by assumption) ?_|refine ye (by assumption) ?_))|rw[z10])
   rw[op];rw[oq];exact Wp.ret ⟨by unfold pcC behN;rw[hpe,hqe];rfl,Mx.at4.1,Mx.at5.1,Mx.tch⟩
end
section
variable {h:AHeap}{l:List AV}{i:Nat}{v:AV}
set_option maxRecDepth 100000 in
theorem idx64(hi:i<64)(hl:l[i]? =some v):zdf Tryd.prog h 84 (some (.agg l)) (some (.int .i64 (i:Int)))=some (.val v,h):=by
 have e:Nat.blt i 64=true:=by simpa using hi
 have:zdf Tryd.prog h 84 (some (.agg l)) (some (.int .i64 (i:Int)))=(if Nat.blt i 64=true then z1c4 h l[i*1]? else none):=by kernel_rfl
 rw[this,if_pos e,Nat.mul_one,hl];rfl
set_option maxRecDepth 100000 in
theorem idx256(hi:i<256)(hl:l[i]? =some v):zdf Tryd.prog h 85 (some (.agg l)) (some (.int .i64 (i:Int)))=some (.val v,h):=by
 have e:Nat.blt i 256=true:=by simpa using hi
 have:zdf Tryd.prog h 85 (some (.agg l)) (some (.int .i64 (i:Int)))=(if Nat.blt i 256=true then z1c4 h l[i*1]? else none):=by kernel_rfl
 rw[this,if_pos e,Nat.mul_one,hl];rfl
end
theorem z36e{w:List Nat}{i:Nat}(h:i<w.length):(z22 w)[i]? =some (.int .u64 ((w.getD i 0:Nat):Int)):=by
 unfold z22;rw[List.getElem?_map,List.getD_eq_getElem?_getD,List.getElem?_eq_getElem h];rfl
def aheadF(fo:List Nat)(these:Nat):Nat→Nat
 |0=>0
 |i+1=>if fo.getD i 0&&&these≠0 then aheadF fo these i|||2 ^ i else aheadF fo these i
theorem z113{fo:List Nat}{these:Nat}:∀(i:Nat),i≤64→aheadF fo these i<18446744073709551616
 |0,_=>by
  show 0<_;decide
 |i+1,h=>by
  rw[aheadF]
  split
  ·exact zd6 (z113 i (by omega)) (z188 (by omega))
  ·exact z113 i (by omega)
def orF(ta:List Nat):Nat→Nat
 |0=>0
 |i+1=>orF ta i|||ta.getD i 0
theorem z2be{ta:List Nat}(h:∀x∈ta,x<18446744073709551616):∀(i:Nat),orF ta i<18446744073709551616
 |0=>by
  show 0<_;decide
 |i+1=>zd6 (z2be h i) (zd2 h i)
def z2f5(fo:List Nat)(sm live:Nat):Nat:=lackN (aheadF fo live 64&&&sm) live
theorem z1a0(fo:List Nat)(sm live:Nat):z2f5 fo sm live<18446744073709551616:=z319 (ze6 (z113 64 (Nat.le_refl _)))
theorem more_up{fo:List Nat}{sm live:Nat}(h:z2f5 fo sm live≠0):live<live|||z2f5 fo sm live:=by
 refine Nat.lt_of_le_of_ne Nat.left_le_or fun e=>h ?_;refine Nat.eq_of_testBit_eq fun i=>?_;rw[Nat.zero_testBit];cases hb:(z2f5 fo sm live).testBit i with
 |false=>rfl
 |true=>
  have h2:live.testBit i=true:=by rw[e,Nat.testBit_or,hb,Bool.or_true]
  unfold z2f5 at hb;rw[z426,h2] at hb
  simp at hb
def z3e7(fo:List Nat)(sm:Nat):Nat→Nat→Nat→Nat
 |0,live,_=>live
 |f+1,live,more=>if more=0 then live else z3e7 fo sm f (live|||z2f5 fo sm live) (z2f5 fo sm live)
theorem z2d0{fo:List Nat}{sm:Nat}:∀(f:Nat) {live:Nat} (more:Nat),live<18446744073709551616→z3e7 fo sm f live more<18446744073709551616
 |0,_,_,h=>h
 |f+1,_,_,h=>by
  rw[z3e7]
  split
  ·exact h
  ·exact z2d0 f _ (zd6 h (z1a0 _ _ _))
def cutG(live _i x:Nat):Nat:=x&&&live
def Nt.live(N:Nt):Nat:=z3e7 N.fo (orF N.ta 256) 18446744073709551620 (N.last&&&orF N.ta 256) (N.last&&&orF N.ta 256)
def Nt.trim(N:Nt):Nt:={N with first:=N.first&&&N.live,ta:=z3e4 (cutG N.live) 0 N.ta}
theorem NtOk.trim{N:Nt}(k:NtOk N):NtOk N.trim:=
 ⟨k.fl,by show (z3e4 _ _ _).length=_;rw[z240];exact k.tl,ze6 k.f,k.l,k.fs,z1e6 k.ts fun i x hx=>ze6 hx⟩
theorem y57{N:Nt}(k:NtOk N):N.live<18446744073709551616:=z2d0 _ _ (ze6 k.l)
def behF(fo:List Nat):Nat→Nat→Nat→Nat
 |0,_,acc=>acc
 |f+1,m,acc=>if m=0 then acc else behF fo f (m&&&(m - 1)) (acc|||fo.getD (tzN m) 0)
theorem z32e{fo:List Nat}(hf:∀x∈fo,x<18446744073709551616):∀(f m:Nat) {acc:Nat},acc<18446744073709551616→behF fo f m acc<18446744073709551616
 |0,_,_,h=>h
 |f+1,_,_,h=>by
  rw[behF]
  split
  ·exact h
  ·exact z32e hf f _ (zd6 h (zd2 hf _))
def Nt.behind(N:Nt)(m:Nat):Nat:=behF N.fo 18446744073709551620 m 0
theorem Nt.behind_small{N:Nt}(k:NtOk N)(m:Nat):N.behind m<18446744073709551616:=z32e k.fs _ _ (by decide)
section
variable {N:Nt}{n d nb:Nat}{h:AHeap}{Q:ARes→AHeap→Prop}
theorem z4a8(k:NtOk N):((netC N).drop 3).take 64=z22 N.fo:=by
 show (z22 N.fo++z22 N.ta).take 64=_;rw[List.take_append_of_le_length (by rw[z65,k.fl];exact Nat.le_refl _),List.take_of_length_le (by rw[z65,k.fl];exact Nat.le_refl _)]
theorem z457(k:NtOk N):((netC N).drop 67).take 256=z22 N.ta:=by
 show ((z22 N.fo++z22 N.ta).drop 64).take 256=_;rw[List.drop_append_of_le_length (by rw[z65,k.fl];exact Nat.le_refl _),List.drop_of_length_le (by rw[z65,k.fl];exact Nat.le_refl _),List.nil_append,List.take_of_length_le (by rw[z65,k.tl];exact Nat.le_refl _)]
theorem z331{these:Nat}{fo:List Nat}{k9:Int→AHeap→R}(hl:fo.length=64)(hs:∀x∈fo,x<18446744073709551616)(ht:these<18446744073709551616)(hk:Wp (k9 (aheadF fo these 64:Nat) h) Q):∀(m f i:Nat),m<f→i+m=64→Wp (zcc (these:Int) (z22 fo) k9 f (aheadF fo these i:Nat) (i:Int) h) Q
 |_,0,_,hf,_=>by omega
 |0,f+1,i,hf,hm=>by
  have:i=64:=by omega
  subst this;rw[z117];unfold zb5
  repeat(first|(with_reducible refine Wp.lett ?_)|((with_reducible refine y7 ?_ ?_;apply decide_eq_false);omega))
  exact hk
 |m+1,f+1,i,hf,hm=>by
  rw[z117];unfold zb5;have hi:i<64:=by omega
  have e1:=idx64 (h:=h) hi (z36e (w:=fo) (i:=i) (by omega));have e2:=z120 (zd2 hs i) ht;have e3:=z33d hi;have e4:=z164 (z113 (fo:=fo) (these:=these) i (by omega)) (z188 hi);have el:(i:Int)+1=((i+1:Nat):Int):=by omega
  have ih:=z331 hl hs ht hk m f (i+1) (by omega) (by omega);rw[aheadF] at ih
  ((with_reducible refine Wp.lett ?_))
  refine y8 (decide_eq_true (by omega)) ?_;refine Wp.outK e1 ?_;refine Wp.obind (z5 _ _) ?_;refine Wp.lett ?_;rw[e2]
  by_cases hz:fo.getD i 0&&&these≠0
  ·rw [if_pos hz] at ih
   repeat(first|(with_reducible refine yc (fun _ _=>?_))|((with_reducible refine yf ?_ ?_ ?_);omega;omega)|(with_reducible first|refine Wp.lett ?_|(apply Wp.obind;exact e3))|((with_reducible refine y8 ?_ ?_;apply z184);omega)|(with_reducible refine ye (by assumption) ?_))
   rw[e4];rw[el];exact ih
  ·rw [if_neg hz] at ih
   repeat(first|(with_reducible refine yc (fun _ _=>?_))|((with_reducible refine yf ?_ ?_ ?_);omega;omega)|(with_reducible refine Wp.lett ?_)|((with_reducible refine y7 ?_ ?_;apply z16e);omega)|(with_reducible refine ye (by assumption) ?_))
   rw[el];exact ih
theorem ahead_w{these:Nat}(hN:NtOk N)(ht:these<18446744073709551616)(hn:64<n)(kn:RowH h nb TNet (netC N)):world n (d+1) 41 [.ptr nb 0,.int .u64 (these:Int)] h=some (.ret (.int .u64 (aheadF N.fo these 64:Nat)),h):=by
 apply Wp.eq;rw[z2a9];unfold zeb
 have e1:z18 h 64 (.ptr nb (0+3))=some (z22 N.fo):=by
  rw[←z4a8 hN];exact kn.ld (by rw[z26d hN];decide)
 repeat(with_reducible first|refine yc (fun _ _=>?_)|(apply Wp.obind;first|exact e1|exact z12 _ _|exact z8 _ _ _))
 rename_i k9 ek9;refine z331 hN.fl hN.fs ht ?_ 64 n 0 (by omega) rfl;rw[ek9];exact Wp.ret ⟨rfl,rfl⟩
theorem z43f{k5:Int→AHeap→R}(hT:HasTz h)(hN:NtOk N)(kn:RowH h nb TNet (netC N)):∀(f F m acc:Nat),m<f→m<F→m<18446744073709551616→acc<18446744073709551616→Wp (k5 (behF N.fo F m acc:Nat) h) Q→Wp (zb4 (world n (d+1)) (.ptr nb 0) k5 f (m:Int) (acc:Int) h) Q
 |0,_,_,_,hf,_,_,_,_=>by omega
 |_,0,_,_,_,hf,_,_,_=>by omega
 |f+1,F+1,m,acc,hf,hF,hm,ha,hk=>by
  rw[z167];unfold zd7;rw[behF] at hk
  by_cases h0:m=0
  ·rw [if_pos h0] at hk
   repeat(first|(with_reducible refine Wp.lett ?_)|((with_reducible refine y7 ?_ ?_;apply z16e);omega))
   exact hk
  ·rw [if_neg h0] at hk
   have e0:=tz_w (n:=n) (d:=d) hT hm h0;have e1:=z17a (b:=nb) (o:=0+3) (z483 m);have e2:z9 h (.ptr nb (0+3+tzN m))=some (.int .u64 (N.fo.getD (tzN m) 0:Int)):=y5 kn (by rw[Nat.zero_add,net_fo hN (z483 m)]);have e3:=z164 ha (zd2 hN.fs (tzN m))
   have e4:IntKind.u64.wrap ((m:Int) - 1)=((m - 1:Nat):Int):=by
    rw[z8c];omega
   have e5:=z120 hm (y:=m - 1) (by omega);have hl:=low_lt h0
   ((with_reducible refine Wp.lett ?_))
   refine y8 (z184 (by omega)) ?_
   repeat(first|((with_reducible refine y5f ?_ ?_ ?_);omega;omega)|(with_reducible first|refine Wp.lett ?_|(apply Wp.obind;first|exact e1|exact e2|exact z5 _ _|exact z12 _ _|exact z8 _ _ _)|(apply Wp.callN;exact e0)))
   rw[e3,show ((m:Int) - 1)=((m - 1:Nat):Int) by omega,e5];refine z43f hT hN kn f F (m&&&(m - 1)) _ (by omega) (by omega) (by omega) (zd6 ha (zd2 hN.fs _)) hk
theorem beh_w{m:Nat}(hT:HasTz h)(hN:NtOk N)(kn:RowH h nb TNet (netC N))(hm:m<18446744073709551616)(hn:18446744073709551616<n):world n (d+2) 34 [.ptr nb 0,.int .u64 (m:Int)] h=some (.ret (.int .u64 (N.behind m:Nat)),h):=by
 apply Wp.eq;rw[z28d];unfold zcf
 ((with_reducible refine yc (fun _ _=>?_)))
 rename_i k5 ek5;refine z43f hT hN kn n 18446744073709551620 m 0 (by omega) (by omega) hm (by decide) ?_;rw[ek5];exact Wp.ret ⟨rfl,rfl⟩
end
section
variable {N:Nt}{n d nb:Nat}{h:AHeap}{Q:ARes→AHeap→Prop}
theorem z379{ta:List Nat}{k8:Int→AHeap→R}(hl:ta.length=256)(hs:∀x∈ta,x<18446744073709551616)(hk:Wp (k8 (orF ta 256:Nat) h) Q):∀(m f i:Nat),m<f→i+m=256→Wp (ze0 (z22 ta) k8 f (orF ta i:Nat) (i:Int) h) Q
 |_,0,_,hf,_=>by omega
 |0,f+1,i,hf,hm=>by
  have:i=256:=by omega
  subst this;rw[z127];unfold zca
  repeat(first|(with_reducible refine Wp.lett ?_)|((with_reducible refine y7 ?_ ?_;apply decide_eq_false);omega))
  exact hk
 |m+1,f+1,i,hf,hm=>by
  rw[z127];unfold zca;have hi:i<256:=by omega
  have e1:=idx256 (h:=h) hi (z36e (w:=ta) (i:=i) (by omega));have e4:=z164 (z2be hs i) (zd2 hs i);have el:(i:Int)+1=((i+1:Nat):Int):=by omega
  have ih:=z379 hl hs hk m f (i+1) (by omega) (by omega);rw[orF] at ih
  ((with_reducible refine Wp.lett ?_))
  refine y8 (decide_eq_true (by omega)) ?_;refine Wp.outK e1 ?_;refine Wp.obind (z5 _ _) ?_;refine Wp.lett ?_;rw[e4]
  repeat(((with_reducible refine yf ?_ ?_ ?_);omega;omega))
  rw[el];exact ih
theorem z398{sm:Nat}{k19:Int→AHeap→R}(hN:NtOk N)(hs:sm<18446744073709551616)(hn:64<n)(kn:RowH h nb TNet (netC N)):∀(f F live more:Nat),(if more=0 then 0 else 18446744073709551616 - live)<f→(if more=0 then 0 else 18446744073709551616 - live)<F→live<18446744073709551616→more<18446744073709551616→Wp (k19 (z3e7 N.fo sm F live more:Nat) h) Q→Wp (ze1 (world n (d+1)) (.ptr nb 0) (sm:Int) k19 f (live:Int) (more:Int) h) Q
 |0,_,_,_,hf,_,_,_,_=>by omega
 |_,0,_,_,_,hf,_,_,_=>by omega
 |f+1,F+1,live,more,hf,hF,hl,hm,hk=>by
  rw[z18d];unfold zfe;rw[z3e7] at hk
  by_cases h0:more=0
  ·rw [if_pos h0] at hk
   repeat(first|(with_reducible refine Wp.lett ?_)|((with_reducible refine y7 ?_ ?_;apply z16e);omega))
   exact hk
  ·rw [if_neg h0] at hk hf hF
   have e0:=ahead_w (d:=d) hN hl hn kn;have e1:=z120 (z113 (fo:=N.fo) (these:=live) 64 (Nat.le_refl _)) hs;have e2:z367 .u64 ((aheadF N.fo live 64&&&sm:Nat):Int) (live:Int)=((z2f5 N.fo sm live:Nat):Int):=z407 (ze6 (z113 64 (Nat.le_refl _))) hl;have e3:=z164 hl (z1a0 N.fo sm live);have hup:z2f5 N.fo sm live≠0→live<live|||z2f5 N.fo sm live:=more_up;have hsm:=zd6 hl (z1a0 N.fo sm live)
   ((with_reducible refine Wp.lett ?_))
   refine y8 (z184 (by omega)) ?_;refine Wp.callN e0 ?_;refine Wp.obind (z5 _ _) ?_;refine Wp.lett ?_;rw[e1];refine Wp.lett ?_;rw[e2];refine Wp.lett ?_;rw[e3];refine z398 hN hs hn kn f F _ _ ?_ ?_ hsm (z1a0 _ _ _) hk
   ·split
    ·omega
    ·have := hup (by assumption)
     omega
   ·split
    ·omega
    ·have := hup (by assumption)
     omega
theorem z43b{live:Nat}{k33:AHeap→R}(hN:NtOk N)(hs:live<18446744073709551616):∀(m f i:Nat) (H:AHeap),m<f→i+m=256→RowH H nb TNet (netC {N with ta:=upd (cutG live) i N.ta})→
  (∀H',RowH H' nb TNet (netC {N with ta:=z3e4 (cutG live) 0 N.ta})→Tch [nb] H H'→Wp (k33 H') Q)→Wp (ze2 (.ptr nb 0) (live:Int) k33 f (i:Int) H) Q
 |_,0,_,_,hf,_,_,_=>by omega
 |0,f+1,i,H,hf,hm,kn,hk=>by
  rw[z128];unfold zcb
  repeat(first|(with_reducible refine Wp.lett ?_)|((with_reducible refine y7 ?_ ?_;apply decide_eq_false);omega))
  refine hk H ?_ (Tch.refl _ _);have:i=256:=by omega
  subst this;rw[z33b hN.tl] at kn;exact kn
 |m+1,f+1,i,H,hf,hm,kn,hk=>by
  rw[z128];unfold zcb;have hi:i<256:=by omega
  have hN2:NtOk {N with ta:=upd (cutG live) i N.ta}:=⟨hN.fl,by show (upd _ _ _).length=_;rw[z339];exact hN.tl,hN.f,hN.l,hN.fs,z2ac hN.ts fun i x hx=>ze6 hx⟩;have el:(i:Int)+1=((i+1:Nat):Int):=by omega
  have e3:=z17a (b:=nb) (o:=0+67) hi;have c2:z9 H (.ptr nb (0+67+i))=some (.int .u64 (N.ta.getD i 0:Int)):=y5 kn (by rw[Nat.zero_add,z4a7 hN2 hi];show some (AV.int .u64 (((upd _ _ _).getD i 0:Nat):Int))=_;rw[z33a]);have e4:=z120 (zd2 hN.ts i) hs
  repeat(first|(with_reducible first|refine Wp.lett ?_|(apply Wp.obind;first|exact e3|exact c2|exact z5 _ _|exact z12 _ _|exact z8 _ _ _))|((with_reducible refine y8 ?_ ?_;apply decide_eq_true);omega))
  rw[e4];refine Wp.st1 kn (by rw[z26d hN2];omega) rfl fun h' k' t' _=>?_;rw[Nat.zero_add,z314 hN2 hi] at k'
  repeat(((with_reducible refine yf ?_ ?_ ?_);omega;omega))
  rw[el];refine z43b hN hs m f (i+1) h' (by omega) (by omega) ?_ fun H' k2 t2=>hk H' k2 (t'.trans t2);have hu:=z3c9 (g:=cutG live) (k:=i) (l:=N.ta) (by rw[hN.tl];exact hi);rw[←hu];exact k'
theorem trim_r(hN:NtOk N)(hn:18446744073709551620<n)(kn:RowH h nb TNet (netC N)):∃h',world n (d+2) 31 [.ptr nb 0] h=some (.ret (.tup []),h')∧RowH h' nb TNet (netC N.trim)∧Tch [nb] h h':=by
 apply Wp.ex;rw[z2f2];unfold z10f
 have e1:z18 h 256 (.ptr nb (0+67))=some (z22 N.ta):=by
  rw[←z457 hN];exact kn.ld (by rw[z26d hN];decide)
 repeat(with_reducible first|refine yc (fun _ _=>?_)|(apply Wp.obind;first|exact e1|exact z12 _ _|exact z8 _ _ _))
 rename_i k8 ek8;refine z379 hN.tl hN.ts ?_ 256 n 0 (by omega) rfl;rw[ek8];have hsm:=z2be hN.ts 256;have c1:z9 h (.ptr nb (0+2))=some (.int .u64 (N.last:Int)):=y5 kn rfl;have e2:=z120 hN.l hsm;have hl:=ze6 (b:=orF N.ta 256) hN.l
 repeat(with_reducible first|refine yc (fun _ _=>?_)|refine Wp.lett ?_|(apply Wp.obind;first|exact c1|exact z5 _ _|exact z12 _ _|exact z8 _ _ _))
 rename_i k19 ek19;rw[e2];refine z398 hN hsm (by omega) kn n 18446744073709551620 _ _ (by split<;>omega) (by split<;>omega) hl hl ?_;rw[ek19];have hL:=y57 hN;have c2:z9 h (.ptr nb (0+1))=some (.int .u64 (N.first:Int)):=y5 kn rfl;have e3:=z120 hN.f hL;have eL:z3e7 N.fo (orF N.ta 256) 18446744073709551620 (N.last&&&orF N.ta 256) (N.last&&&orF N.ta 256)=N.live:=rfl;rw[eL]
 repeat(with_reducible first|refine Wp.lett ?_|(apply Wp.obind;first|exact c2|exact z5 _ _|exact z12 _ _|exact z8 _ _ _))
 rw[e3];refine Wp.st1 kn (by rw[z26d hN];omega) rfl fun h' k' t' _=>?_
 repeat((with_reducible refine y10 (fun _ _=>?_)))
 rename_i k33 ek33;refine z43b (N:={N with first:=N.first&&&N.live}) ⟨hN.fl,hN.tl,ze6 hN.f,hN.l,hN.fs,hN.ts⟩ hL 256 n 0 h' (by omega) rfl ?_ fun H' k2 t2=>?_
 ·rw [z338]
  exact k'
 ·rw [ek33]
  exact Wp.ret ⟨rfl,k2,t'.trans t2⟩
end
mutual
def Nd.sz:Nd→Nat
 | .mk _ _ ks=>szL ks+1
def szL:List Nd→Nat
 |[]=>0
 |k::ks=>Nd.sz k+szL ks+1
end
theorem z3cc:∀ks:List Nd,ks.length≤szL ks
 |[]=>Nat.zero_le _
 |k::ks=>by
  have:=z3cc ks;rw[List.length_cons,szL];omega
def RowsAt(h:AHeap)(T:List ze7):Prop:=∀y∈T,RowH h y.1 y.2.1 y.2.2∧y.1<h.next
theorem RowsAt.keep{h h':AHeap}{T:List ze7}(k:RowsAt h T)(t:Tch [] h h'):RowsAt h' T:=fun y hy=>⟨(k y hy).1.tch t (k y hy).2 (by simp),Nat.lt_of_lt_of_le (k y hy).2 t.1⟩
theorem RowsAt.left{h:AHeap}{T T':List ze7}(k:RowsAt h (T++T')):RowsAt h T:=fun y hy=>k y (List.mem_append_left _ hy)
theorem RowsAt.right{h:AHeap}{T T':List ze7}(k:RowsAt h (T++T')):RowsAt h T':=fun y hy=>k y (List.mem_append_right _ hy)
theorem z1ea{h:AHeap}{kc:List (List AV)}{kv:AV}{T:List ze7}(g:GrowT z28 6 kc kv T)(k:RowsAt h T):Slc h.next h 6 kv kc:=by
 refine Sli.slc (e:=z28) (lo:=0) ⟨fun r hr=>g.1 r hr,?_⟩
 rcases g.2 with⟨h1,h2,_⟩|⟨h1,c,h2,rfl⟩
 ·exact .inl ⟨h1,h2⟩
 ·obtain ⟨k1, k2⟩ := k (c, z28, kc.flatten) (by simp)
  exact .inr ⟨c,h1,h2,Nat.zero_le _,k2,k1⟩
theorem Slc.keep{h h':AHeap}{v:AV}{kc:List (List AV)}{T:List ze7}(g:GrowT z28 6 kc v T)(k:RowsAt h T)(t:Tch [] h h'):Slc h'.next h' 6 v kc:=z1ea g (k.keep t)
def noPc:Pc:=⟨true,0,0⟩
def altP(p q:Pc):Pc:=⟨p.empty||q.empty,p.first|||q.first,p.last|||q.last⟩
mutual
def z58:Nd→Nt→Nat→Pc×Nt×Nat
 | .mk op w ks,N,u=>
  if op=2 then (⟨false,bitN u,bitN u⟩,N.place w (bitN u),u+1)
  else if op=3 then catN ks noPc N u
  else if op=4 then altN ks ⟨false,0,0⟩ N u
  else if op=5∨op=6 then (⟨(z247 ks N u).1.empty||decide (op=5),(z247 ks N u).1.first,(z247 ks N u).1.last⟩,(z247 ks N u).2.1.follow (z247 ks N u).1.last (z247 ks N u).1.first,(z247 ks N u).2.2)
  else if op=7 then (⟨true,(z247 ks N u).1.first,(z247 ks N u).1.last⟩,(z247 ks N u).2.1,(z247 ks N u).2.2)
  else (noPc,N,u)
def catN:List Nd→Pc→Nt→Nat→Pc×Nt×Nat
 |[],p,N,u=>(p,N,u)
 |k::ks,p,N,u=>catN ks (behN p (z58 k N u).1) ((z58 k N u).2.1.follow p.last (z58 k N u).1.first) (z58 k N u).2.2
def altN:List Nd→Pc→Nt→Nat→Pc×Nt×Nat
 |[],p,N,u=>(p,N,u)
 |k::ks,p,N,u=>altN ks (altP p (z58 k N u).1) (z58 k N u).2.1 (z58 k N u).2.2
def z247:List Nd→Nt→Nat→Pc×Nt×Nat
 |[],N,u=>(noPc,N,u)
 |k::_,N,u=>z58 k N u
end
structure ROk (x:Pc×Nt×Nat) (b:Nat):Prop where
 p:PcOk x.1
 n:NtOk x.2.1
 u:x.2.2≤b
theorem altP_ok{p q:Pc}(a:PcOk p)(b:PcOk q):PcOk (altP p q):=⟨zd6 a.f b.f,zd6 a.l b.l⟩
theorem z34b:PcOk noPc:=⟨by decide,by decide⟩
mutual
theorem z115:∀(t:Nd) {N:Nt} {u:Nat},NtOk N→ROk (z58 t N u) (u+t.sz)
 | .mk op w ks,N,u,k=>by
  rw[z58,Nd.sz]
  split
  ·exact⟨⟨z1f1 u,z1f1 u⟩,k.place (z1f1 u),by show u+1≤_;omega⟩
  split
  ·have := catN_ok ks (u := u) z34b k
   exact⟨this.p,this.n,Nat.le_trans this.u (by omega)⟩
  split
  ·have := altN_ok ks (p := ⟨false, 0, 0⟩) (u := u) ⟨by decide, by decide⟩ k
   exact⟨this.p,this.n,Nat.le_trans this.u (by omega)⟩
  have hh:=headN_ok ks (u:=u) k
  split
  ·exact⟨⟨hh.p.f,hh.p.l⟩,hh.n.follow hh.p.f,Nat.le_trans hh.u (by omega)⟩
  split
  ·exact⟨⟨hh.p.f,hh.p.l⟩,hh.n,Nat.le_trans hh.u (by omega)⟩
  ·exact⟨z34b,k,by show u≤_;omega⟩
theorem catN_ok:∀(ks:List Nd) {p:Pc} {N:Nt} {u:Nat},PcOk p→NtOk N→ROk (catN ks p N u) (u+szL ks)
 |[],p,N,u,hp,hN=>⟨hp,hN,by show u≤_;omega⟩
 |k::ks,p,N,u,hp,hN=>by
  have h1:=z115 k (u:=u) hN;have h2:=catN_ok ks (u:=(z58 k N u).2.2) (behN_ok hp h1.p) (h1.n.follow (those:=p.last) h1.p.f);rw[catN,szL];exact⟨h2.p,h2.n,Nat.le_trans h2.u (by have:=h1.u;omega)⟩
theorem altN_ok:∀(ks:List Nd) {p:Pc} {N:Nt} {u:Nat},PcOk p→NtOk N→ROk (altN ks p N u) (u+szL ks)
 |[],p,N,u,hp,hN=>⟨hp,hN,by show u≤_;omega⟩
 |k::ks,p,N,u,hp,hN=>by
  have h1:=z115 k (u:=u) hN;have h2:=altN_ok ks (u:=(z58 k N u).2.2) (altP_ok hp h1.p) h1.n;rw[altN,szL];exact⟨h2.p,h2.n,Nat.le_trans h2.u (by have:=h1.u;omega)⟩
theorem headN_ok:∀(ks:List Nd) {N:Nt} {u:Nat},NtOk N→ROk (z247 ks N u) (u+szL ks)
 |[],N,u,hN=>⟨z34b,hN,by show u≤_;omega⟩
 |k::ks,N,u,hN=>by
  have h1:=z115 k (u:=u) hN;rw[z247,szL];exact⟨h1.p,h1.n,Nat.le_trans h1.u (by omega)⟩
end
mutual
def z3c4:Nd→Prop
 | .mk op _ ks=>((3≤op→ks≠[])∧(5≤op→ks.length=1))∧oneL ks
def oneL:List Nd→Prop
 |[]=>True
 |k::ks=>z3c4 k∧oneL ks
end
theorem y34{S:List Nat}{h0 h h':AHeap}{xs ys:List ze7}{b c:Nat}{e f:TypeId}{l l' m m':List AV}(M:Mem S h0 h (xs++(b,e,l)::(c,f,m)::ys))(ht:Tch [b,c] h h')(k1:RowH h' b e l')(k2:RowH h' c f m'):Mem S h0 h' (xs++(b,e,l')::(c,f,m')::ys):=by
 have hap:=M.apart;have hle:=ht.1;simp only[List.map_append,List.map_cons] at hap
 have hne:∀x∈xs++ys,x.1≠b∧x.1≠c:=by
  intro x hx;rw[List.nodup_append] at hap;obtain⟨_,h2,h3⟩:=hap;rw[List.nodup_cons,List.nodup_cons] at h2
  rcases List.mem_append.1 hx with hx|hx
  ·exact⟨h3 x.1 (List.mem_map_of_mem hx) b (by simp),h3 x.1 (List.mem_map_of_mem hx) c (by simp)⟩
  ·exact⟨fun hxb=>h2.1 (by rw[←hxb];exact List.mem_cons_of_mem _ (List.mem_map_of_mem hx)),fun hxb=>h2.2.1 (by rw[←hxb];exact List.mem_map_of_mem hx)⟩
 have rb:=M.row (b,e,l) (by simp);have rc:=M.row (c,f,m) (by simp);refine⟨fun x hx=>?_,by simpa only[List.map_append,List.map_cons] using hap,M.tch.trans' ht fun i hi=>?_⟩
 ·have hx' : x ∈ xs ++ ys ∨ x = (b, e, l') ∨ x = (c, f, m') := by
   rcases List.mem_append.1 hx with hx|hx
   ·exact .inl (List.mem_append_left _ hx)
   ·rcases List.mem_cons.1 hx with hx | hx
    ·exact .inr (.inl hx)
    ·rcases List.mem_cons.1 hx with hx | hx
     ·exact .inr (.inr hx)
     ·exact .inl (List.mem_append_right _ hx)
  rcases hx' with hx'|rfl|rfl
  ·obtain ⟨h1, h2, h3⟩ := M.row x (by
    rcases List.mem_append.1 hx' with hx|hx
    ·exact List.mem_append_left _ hx
    ·exact List.mem_append_right _ (List.mem_cons_of_mem _ (List.mem_cons_of_mem _ hx)))
   exact⟨h1.tch ht h2 (by simpa using hne x hx'),by omega,h3⟩
  ·exact⟨k1,Nat.lt_of_lt_of_le rb.2.1 hle,rb.2.2⟩
  ·exact⟨k2,Nat.lt_of_lt_of_le rc.2.1 hle,rc.2.2⟩
 ·simp only [List.mem_cons, List.not_mem_nil, or_false] at hi
  rcases hi with rfl|rfl
  ·exact rb.2.2
  ·exact rc.2.2
theorem RowsAt.keepS{h h':AHeap}{T:List ze7}{S:List Nat}(k:RowsAt h T)(t:Tch S h h')(hS:∀y∈T,y.1 ∉ S):RowsAt h' T:=fun y hy=>⟨(k y hy).1.tch t (k y hy).2 (hS y hy),Nat.lt_of_lt_of_le (k y hy).2 t.1⟩
def PieceW(n D b nb:Nat)(h0:AHeap)(c:List AV)(t:Nd):Prop:=∀(N:Nt) (u:Nat) (h:AHeap),NtOk N→u+t.sz<1000000→Tch [b,nb] h0 h→RowH h b TBl [.ptr nb 0,.int .i64 (u:Int)]→RowH h nb TNet (netC N)→
 ∃h',world n D 30 [.ptr b 0,.agg c] h=some (.ret (.agg (pcC (z58 t N u).1)),h')∧RowH h' b TBl [.ptr nb 0,.int .i64 ((z58 t N u).2.2:Nat)]∧RowH h' nb TNet (netC (z58 t N u).2.1)∧Tch [b,nb] h h'
inductive KidP (n D b nb:Nat) (h0:AHeap):List (List AV)→List Nd→Prop
 |nil:KidP n D b nb h0 [] []
 |cons {c:List AV} {t:Nd} {l:List (List AV)} {ks:List Nd} (e:PieceW n D b nb h0 c t) (k:KidP n D b nb h0 l ks):KidP n D b nb h0 (c::l) (t::ks)
theorem PieceW.keep{n D b nb:Nat}{h0 h1:AHeap}{c:List AV}{t:Nd}(k:PieceW n D b nb h0 c t)(th:Tch [b,nb] h0 h1):PieceW n D b nb h1 c t:=fun N u h a1 a2 a3 a4 a5=>k N u h a1 a2 (th.trans a3) a4 a5
theorem KidP.keep{n D b nb:Nat}{h0 h1:AHeap}{l:List (List AV)}{ks:List Nd}(k:KidP n D b nb h0 l ks)(th:Tch [b,nb] h0 h1):KidP n D b nb h1 l ks:=by
 induction k with
 |nil=>exact .nil
 |cons e _ ih=>exact .cons (e.keep th) ih
theorem z16d{α:Type}{K m:List α}{c:α}{i:Nat}(d:K.drop i=c::m):∃hi:i<K.length,K[i]=c∧K.drop (i+1)=m:=by
 have hi:i<K.length:=by
  have:=congrArg List.length d;rw[List.length_drop,List.length_cons] at this;omega
 have g:=List.drop_eq_getElem_cons hi;rw[d] at g;simp only[List.cons.injEq] at g;exact⟨hi,g.1.symm,g.2.symm⟩
theorem drop_nil{α:Type}{K:List α}{i:Nat}(d:K.drop i=[]):K.length≤i:=by
 have:=congrArg List.length d;rw[List.length_drop,List.length_nil] at this;omega
section
variable {h:AHeap}{n d b nb:Nat}{kv:AV}{K:List (List AV)}{T ys:List ze7}{Q:ARes→AHeap→Prop}
theorem z43c{k36:AHeap→R}{h4:AHeap}(g:GrowT z28 6 K kv T)(r:RowsAt h T)(hT:∀y∈T,y.1 ∉ [b,nb])(hK:∀c∈K,c.length=6∧c.all AV.one=true)(hn:64<n)(hKn:K.length<1000000)(hne:b≠nb):∀(l:List (List AV)) (ks:List Nd) (i f:Nat) (H:AHeap) (p:Pc) (N:Nt) (u:Nat),KidP n (d+2) b nb h l ks→K.drop i=l→K.length - i<f→NtOk N→PcOk p→u+szL ks<1000000→
  Mem [b,nb] h H ((h4.next,TPc,pcC p)::(b,TBl,[.ptr nb 0,.int .i64 (u:Int)])::(nb,TNet,netC N)::ys)→
  (∀H',Mem [b,nb] h H' ((h4.next,TPc,pcC (catN ks p N u).1)::(b,TBl,[.ptr nb 0,.int .i64 ((catN ks p N u).2.2:Nat)])::(nb,TNet,netC (catN ks p N u).2.1)::ys)→Wp (k36 H') Q)→Wp (z86 (world n (d+2)) (.ptr b 0) h4 kv (K.length:Int) k36 f (i:Int) H) Q
 |_,_,_,0,_,_,_,_,_,_,hf,_,_,_,_,_=>by omega
 |l,ks,i,f+1,H,p,N,u,kk,d1,hf,hN,hp,hu,Mx,hk=>by
  rw[z125];unfold za3
  cases kk with
  |nil=>
   have:=drop_nil d1
   repeat(first|(with_reducible refine Wp.lett ?_)|((with_reducible refine y7 ?_ ?_;apply decide_eq_false);omega))
   exact hk H Mx
  |cons e k=>
   rename_i c t m ks;rw[szL] at hu;obtain⟨hi1,hc,d2⟩:=z16d d1;have rH:=r.keepS Mx.tch hT;obtain⟨p1,_,x1,y1⟩:=(z1ea g rH).row hi1;obtain⟨l6,o6⟩:=hK _ (List.getElem_mem hi1);rw[hc] at y1 l6 o6;have hr:=z115 t (u:=u) hN;rw[catN] at hk
   repeat(first|((with_reducible apply y9 Mx);clear Mx;intro _ Mx)|(with_reducible first|refine Wp.lett ?_|(apply Wp.obind;first|exact x1|exact y1))|((with_reducible refine y8 ?_ ?_;apply decide_eq_true);omega)|rw[z10])
   refine y11 Mx l6 rfl o6 fun h2 M2=>?_;clear Mx;have Mx:=M2;clear M2;refine y20 Mx rfl ?_;refine y16 Mx l6 ?_;obtain⟨h3,e3,kb3,kn3,t3⟩:=e N u h2 hN (by omega) Mx.tch Mx.at2.1 Mx.at3.1;refine Wp.callN e3 ?_;clear e3;have M3:=y34 (xs:=[_,_]) Mx t3 kb3 kn3;clear Mx;have Mx:=M3;clear M3;simp only[List.cons_append,List.nil_append] at Mx
   repeat(first|((with_reducible refine Wp.chk ?_ ?_);focus ((repeat' (first|(with_reducible exact rfl)|(with_reducible apply z174)|((with_reducible apply Mem.rr1 Mx);kernel_rfl;kernel_rfl)));done))|(with_reducible apply Wp.obind;exact z13 _))
   obtain⟨h5,e5,kb5,kn5,t5⟩:=behind_r (d:=d) (v:=.int .i64 ((z58 t N u).2.2:Nat)) hr.n hp hr.p hn hne Mx.at2.1 Mx.at2.2.1 Mx.at3.1 Mx.at3.2.1;refine Wp.callN e5 ?_;clear e5;have M5:=y34 (xs:=[_,_]) Mx t5 kb5 kn5;clear Mx;have Mx:=M5;clear M5;simp only[List.cons_append,List.nil_append] at Mx
   (((with_reducible apply Wp.obind);(with_reducible exact z13 _)))
   refine y24 Mx rfl rfl rfl fun h6 M6=>?_
   repeat(((with_reducible refine yf ?_ ?_ ?_);omega;omega))
   rw[show (i:Int)+1=((i+1:Nat):Int) by omega];have:=hr.u;exact z43c g r hT hK hn hKn hne m ks (i+1) f h6 _ _ _ k d2 (by omega) (hr.n.follow hr.p.f) (behN_ok hp hr.p) (by omega) M6.pop hk
theorem z330{k83:AHeap→R}{h4:AHeap}(g:GrowT z28 6 K kv T)(r:RowsAt h T)(hT:∀y∈T,y.1 ∉ [b,nb])(hK:∀c∈K,c.length=6∧c.all AV.one=true)(hKn:K.length<1000000):∀(l:List (List AV)) (ks:List Nd) (i f:Nat) (H:AHeap) (p:Pc) (N:Nt) (u:Nat),KidP n d b nb h l ks→K.drop i=l→K.length - i<f→NtOk N→PcOk p→u+szL ks<1000000→
  Mem [b,nb] h H ((h4.next,TPc,pcC p)::(b,TBl,[.ptr nb 0,.int .i64 (u:Int)])::(nb,TNet,netC N)::ys)→
  (∀H',Mem [b,nb] h H' ((h4.next,TPc,pcC (altN ks p N u).1)::(b,TBl,[.ptr nb 0,.int .i64 ((altN ks p N u).2.2:Nat)])::(nb,TNet,netC (altN ks p N u).2.1)::ys)→Wp (k83 H') Q)→Wp (z85 (world n d) (.ptr b 0) h4 kv (K.length:Int) k83 f (i:Int) H) Q
 |_,_,_,0,_,_,_,_,_,_,hf,_,_,_,_,_=>by omega
 |l,ks,i,f+1,H,p,N,u,kk,d1,hf,hN,hp,hu,Mx,hk=>by
  rw[z124];unfold za2
  cases kk with
  |nil=>
   have:=drop_nil d1
   repeat(first|(with_reducible refine Wp.lett ?_)|((with_reducible refine y7 ?_ ?_;apply decide_eq_false);omega))
   exact hk H Mx
  |cons e k=>
   rename_i c t m ks;rw[szL] at hu;obtain⟨hi1,hc,d2⟩:=z16d d1;have rH:=r.keepS Mx.tch hT;obtain⟨p1,_,x1,y1⟩:=(z1ea g rH).row hi1;obtain⟨l6,o6⟩:=hK _ (List.getElem_mem hi1);rw[hc] at y1 l6 o6;have hr:=z115 t (u:=u) hN;rw[altN] at hk
   repeat(first|((with_reducible apply y9 Mx);clear Mx;intro _ Mx)|(with_reducible first|refine Wp.lett ?_|(apply Wp.obind;first|exact x1|exact y1))|((with_reducible refine y8 ?_ ?_;apply decide_eq_true);omega)|rw[z10])
   refine y11 Mx l6 rfl o6 fun h2 M2=>?_;clear Mx;have Mx:=M2;clear M2;refine y16 Mx l6 ?_;obtain⟨h3,e3,kb3,kn3,t3⟩:=e N u h2 hN (by omega) Mx.tch Mx.at2.1 Mx.at3.1;refine Wp.callN e3 ?_;clear e3;have M3:=y34 (xs:=[_,_]) Mx t3 kb3 kn3;clear Mx;have Mx:=M3;clear M3;simp only[List.cons_append,List.nil_append] at Mx;have o1:=z164 hp.f hr.p.f;have o2:=z164 hp.l hr.p.l;have el:(i:Int)+1=((i+1:Nat):Int):=by omega
   have hu2:=hr.u;have fin:=fun h6 M6=>z330 g r hT hK hKn m ks (i+1) f h6 _ _ _ k d2 (by omega) hr.n (altP_ok hp hr.p) (by omega) M6 hk;unfold pcC at Mx
   repeat(first|(with_reducible apply Wp.obind;exact z6 _)|((with_reducible apply y11 Mx);rfl;rfl;(rfl);clear Mx;intro _ Mx)|((with_reducible apply y1b Mx);rfl)|((with_reducible apply y9 Mx);clear Mx;intro _ Mx)|(with_reducible first|refine yc (fun _ _=>?_)|(apply Wp.obind;exact z13 _))|rw[z10])
   cases hpe:p.empty with
   |true=>
    rw[hpe] at Mx
    repeat(first|(with_reducible apply Wp.obind;exact z5 _ _)|((with_reducible apply y21 Mx);rfl)|((with_reducible apply y1b Mx);rfl)|((with_reducible apply y39 Mx);rfl;rfl;(rfl);clear Mx;intro _ Mx)|((with_reducible refine yf ?_ ?_ ?_);omega;omega)|(with_reducible first|refine Wp.lett ?_|(refine y8 ?_ ?_;rfl)|refine ye (by assumption) ?_))
    rw[o1,o2] at Mx;rw[el];refine fin _ ?_;unfold altP pcC;rw[hpe];exact Mx.pop.pop
   |false=>
    rw[hpe] at Mx
    repeat(first|(with_reducible apply Wp.obind;first|exact z5 _ _|exact z6 _)|((with_reducible apply y21 Mx);rfl)|((with_reducible apply y1b Mx);rfl)|((with_reducible apply y39 Mx);rfl;rfl;(rfl);clear Mx;intro _ Mx)|((with_reducible refine yf ?_ ?_ ?_);omega;omega)|(with_reducible first|refine Wp.lett ?_|(refine y7 ?_ ?_;rfl)|refine ye (by assumption) ?_))
    rw[o1,o2] at Mx;rw[el];refine fin _ ?_;unfold altP pcC;rw[hpe];exact Mx.pop.pop
end
theorem perm5{α:Type}(a b c d e:α):[a,d,e,b,c].Perm [a,b,c,d,e]:=List.Perm.cons a (List.perm_append_comm (l₁:=[d,e]) (l₂:=[b,c]))
def z333(b nb:Nat)(H:AHeap)(x:Pc×Nt×Nat)(r:ARes)(h':AHeap):Prop:=r=.ret (.agg (pcC x.1))∧RowH h' b TBl [.ptr nb 0,.int .i64 (x.2.2:Nat)]∧RowH h' nb TNet (netC x.2.1)∧Tch [b,nb] H h'
section
variable {n d b nb u:Nat}{a b' c' d':Nat}{h H:AHeap}{N:Nt}{kv1:AV}{kc1:List (List AV)}{T01:List ze7}{ks:List Nd}{c1:List AV}{t1:Nd}
theorem z495(hw:WordsOk [a,b',c',d'])(hn:256<n)(hu:u<1000000)(hN:NtOk N)(hne:b≠nb)(kb:RowH H b TBl [.ptr nb 0,.int .i64 (u:Int)])(hbH:b<H.next)(kn:RowH H nb TNet (netC N))(hnH:nb<H.next)(hv:kv1.one=true):Wp (z1d (world n (d+2)) n (.ptr b 0) (z96 2 [a,b',c',d'] kv1) H) (z333 b nb H (⟨false,bitN u,bitN u⟩,N.place [a,b',c',d'] (bitN u),u+1)):=by
 unfold z1d;have Mx:=y38 kb hbH kn hnH hne;have o1:=zb3 (op:=2) (w:=[a,b',c',d']) hv;refine y15 Mx o1 fun h1 M1=>?_;clear Mx;have Mx:=M1;clear M1
 repeat(first|(with_reducible apply Wp.obind;first|exact z5 _ _|exact z8 _ _ _)|((with_reducible apply y30 Mx);rfl)|((with_reducible apply y9 Mx);clear Mx;intro _ Mx)|(with_reducible refine Wp.lett ?_)|((with_reducible refine y8 ?_ ?_;apply z88);omega)|rw[z10])
 have e1:z18 _ 4 (.ptr H.next (0+1))=some (z22 [a,b',c',d']):=Mx.at1.1.ld (o:=0+1) (n:=4) (by show 5≤6;decide)
 repeat(((with_reducible apply Wp.obind);(with_reducible exact e1)))
 obtain⟨h3,e3,kb3,kn3,t3⟩:=place_r (n:=n) (d:=d+1) hN hw hn hu hne Mx.at2.1 Mx.at2.2.1 Mx.at3.1 Mx.at3.2.1;refine Wp.callN e3 ?_;clear e3 e1;have M3:=y34 (xs:=[_,_]) Mx t3 kb3 kn3;clear Mx;have Mx:=M3;clear M3;simp only[List.cons_append,List.nil_append] at Mx
 repeat(first|((with_reducible apply y16 Mx);rfl)|((with_reducible apply y11 Mx);rfl;rfl;(rfl);clear Mx;intro _ Mx)|(with_reducible apply Wp.obind;exact z13 _))
 exact Wp.ret ⟨rfl,Mx.at2.1,Mx.at3.1,Mx.tch⟩
theorem z497(g1:GrowT z28 6 kc1 kv1 T01)(rH:RowsAt H T01)(hT0:∀y∈T01,y.1 ∉ [b,nb])(hK:∀c∈kc1,c.length=6∧c.all AV.one=true)(hkl:kc1.length<1000000)(hkn:kc1.length<n)(hn:64<n)(hu:u+szL ks<1000000)(kk:KidP n (d+2) b nb H kc1 ks)(hN:NtOk N)(hne:b≠nb)(kb:RowH H b TBl [.ptr nb 0,.int .i64 (u:Int)])(hbH:b<H.next)(kn:RowH H nb TNet (netC N))(hnH:nb<H.next)(hv:kv1.one=true):Wp (z1d (world n (d+2)) n (.ptr b 0) (z96 3 [a,b',c',d'] kv1) H) (z333 b nb H (catN ks noPc N u)):=by
 unfold z1d;have Mx:=y38 kb hbH kn hnH hne;have o1:=zb3 (op:=3) (w:=[a,b',c',d']) hv;refine y15 Mx o1 fun h1 M1=>?_;clear Mx;have Mx:=M1;clear M1;have len1:=g1.len
 repeat(first|(with_reducible apply Wp.obind;first|exact z5 _ _|exact z8 _ _ _)|((with_reducible apply y11 Mx);rfl;rfl;(rfl);clear Mx;intro _ Mx)|((with_reducible apply y30 Mx);rfl)|((with_reducible apply y1b Mx);rfl)|((with_reducible apply y9 Mx);clear Mx;intro _ Mx)|(with_reducible first|refine y10 (fun _ _=>?_)|refine Wp.lett ?_|(apply Wp.obind;exact len1))|((with_reducible refine y8 ?_ ?_;apply z88);omega)|((with_reducible refine y7 ?_ ?_;apply z99);omega)|rw[z10])
 rename_i kx ekx;have Mp:=Mx.perm (perm5 _ _ _ _ _);refine z43c (h:=H) (ys:=[_,_]) g1 rH hT0 hK (by omega) (by omega) hne kc1 ks 0 n _ noPc N u kk List.drop_zero (by omega) hN z34b (by omega) Mp fun H' M'=>?_;clear Mx Mp;have Mx:=M';clear M';rw[ekx]
 repeat(first|((with_reducible apply y16 Mx);rfl)|((with_reducible apply y3b Mx);rfl)|((with_reducible apply y45 Mx);rfl;rfl;(rfl);clear Mx;intro _ Mx)|rw[z10])
 exact Wp.ret ⟨rfl,Mx.at1.1,Mx.at2.1,Mx.tch⟩
theorem z498(g1:GrowT z28 6 kc1 kv1 T01)(rH:RowsAt H T01)(hT0:∀y∈T01,y.1 ∉ [b,nb])(hK:∀c∈kc1,c.length=6∧c.all AV.one=true)(hkl:kc1.length<1000000)(hkn:kc1.length<n)(hu:u+szL ks<1000000)(kk:KidP n (d+2) b nb H kc1 ks)(hN:NtOk N)(hne:b≠nb)(kb:RowH H b TBl [.ptr nb 0,.int .i64 (u:Int)])(hbH:b<H.next)(kn:RowH H nb TNet (netC N))(hnH:nb<H.next)(hv:kv1.one=true):Wp (z1d (world n (d+2)) n (.ptr b 0) (z96 4 [a,b',c',d'] kv1) H) (z333 b nb H (altN ks ⟨false,0,0⟩ N u)):=by
 unfold z1d;have Mx:=y38 kb hbH kn hnH hne;have o1:=zb3 (op:=4) (w:=[a,b',c',d']) hv;refine y15 Mx o1 fun h1 M1=>?_;clear Mx;have Mx:=M1;clear M1;have len1:=g1.len
 repeat(first|(with_reducible apply Wp.obind;first|exact z5 _ _|exact z8 _ _ _)|((with_reducible apply y11 Mx);rfl;rfl;(rfl);clear Mx;intro _ Mx)|((with_reducible apply y30 Mx);rfl)|((with_reducible apply y1b Mx);rfl)|((with_reducible apply y9 Mx);clear Mx;intro _ Mx)|(with_reducible first|refine y10 (fun _ _=>?_)|refine Wp.lett ?_|(apply Wp.obind;exact len1))|((with_reducible refine y8 ?_ ?_;apply z88);omega)|((with_reducible refine y7 ?_ ?_;apply z99);omega)|rw[z10])
 rename_i kx ekx;have Mp:=Mx.perm (perm5 _ _ _ _ _);refine z330 (h:=H) (ys:=[_,_]) g1 rH hT0 hK (by omega) kc1 ks 0 n _ ⟨false,0,0⟩ N u kk List.drop_zero (by omega) hN ⟨by decide,by decide⟩ (by omega) Mp fun H' M'=>?_;clear Mx Mp;have Mx:=M';clear M';rw[ekx]
 repeat(first|((with_reducible apply y16 Mx);rfl)|((with_reducible apply y3b Mx);rfl)|((with_reducible apply y45 Mx);rfl;rfl;(rfl);clear Mx;intro _ Mx)|rw[z10])
 exact Wp.ret ⟨rfl,Mx.at1.1,Mx.at2.1,Mx.tch⟩
theorem z452(g1:GrowT z28 6 [c1] kv1 T01)(rH:RowsAt H T01)(hT0:∀y∈T01,y.1 ∉ [b,nb])(hn:64<n)(hu:u+t1.sz<1000000)(e:PieceW n (d+2) b nb H c1 t1)(hN:NtOk N)(hne:b≠nb)(kb:RowH H b TBl [.ptr nb 0,.int .i64 (u:Int)])(hbH:b<H.next)(kn:RowH H nb TNet (netC N))(hnH:nb<H.next)(hv:kv1.one=true):Wp (z1d (world n (d+2)) n (.ptr b 0) (z96 5 [a,b',c',d'] kv1) H) (z333 b nb H (⟨(z58 t1 N u).1.empty||decide (5=5),(z58 t1 N u).1.first,(z58 t1 N u).1.last⟩,(z58 t1 N u).2.1.follow (z58 t1 N u).1.last (z58 t1 N u).1.first,(z58 t1 N u).2.2)):=by
 unfold z1d;have Mx:=y38 kb hbH kn hnH hne;have o1:=zb3 (op:=5) (w:=[a,b',c',d']) hv;refine y15 Mx o1 fun h1 M1=>?_;clear Mx;have Mx:=M1;clear M1;have hr:=z115 t1 (u:=u) hN
 repeat(first|(with_reducible apply Wp.obind;first|exact z5 _ _|exact z8 _ _ _)|((with_reducible apply y30 Mx);rfl)|((with_reducible apply y9 Mx);clear Mx;intro _ Mx)|(with_reducible first|refine yc (fun _ _=>?_)|refine Wp.lett ?_)|((with_reducible refine y8 ?_ ?_);first|(with_reducible rfl)|((with_reducible apply z88);omega))|((with_reducible refine y7 ?_ ?_;apply z99);omega)|(with_reducible refine ye (by assumption) ?_)|rw[z10])
 obtain⟨p1,_,x1,y1⟩:=(z1ea g1 (rH.keepS Mx.tch hT0)).row (i:=0) (by simp);have x2:z1a6 6 kv1 0=some (.ptr p1 (0*6)):=x1;have y2:z18 _ 6 (.ptr p1 (0*6))=some c1:=y1;clear x1 y1
 repeat(((with_reducible apply Wp.obind);(with_reducible first|exact x2|exact y2)))
 obtain⟨h3,e3,kb3,kn3,t3⟩:=e N u _ hN (by omega) Mx.tch Mx.at2.1 Mx.at3.1;refine Wp.callN e3 ?_;clear e3 x2 y2;have M3:=y34 (xs:=[_,_]) Mx t3 kb3 kn3;clear Mx;have Mx:=M3;clear M3;simp only[List.cons_append,List.nil_append] at Mx
 repeat(first|(with_reducible apply Wp.obind;exact z5 _ _)|((with_reducible apply y21 Mx);rfl)|((with_reducible apply y11 Mx);rfl;rfl;(rfl);clear Mx;intro _ Mx)|((with_reducible apply y9 Mx);clear Mx;intro _ Mx)|(with_reducible apply Wp.obind;exact z13 _)|rw[z10])
 obtain⟨h5,e5,kn5,t5⟩:=z355 (n:=n) (d:=d+1) hr.n hr.p.f hr.p.l (by omega) hne Mx.at3.1 Mx.at3.2.1 Mx.at4.1;refine Wp.callN e5 ?_;clear e5;have M5:=y18 (xs:=[_,_,_,_]) Mx t5 kn5;clear Mx;have Mx:=M5;clear M5;simp only[List.cons_append,List.nil_append] at Mx;cases he:(z58 t1 N u).1.empty with
 |true=>
  unfold pcC at Mx;rw[he] at Mx
  repeat(first|(with_reducible apply Wp.obind;exact z6 _)|((with_reducible apply y21 Mx);rfl)|((with_reducible apply y16 Mx);rfl)|((with_reducible apply y41 Mx);exact Nat.le_of_ble_eq_true rfl;rfl;clear Mx;intro _ Mx)|((with_reducible apply y20 Mx);rfl)|((with_reducible apply y24 Mx);rfl;rfl;(rfl);clear Mx;intro _ Mx)|(with_reducible first|refine yc (fun _ _=>?_)|(refine y8 ?_ ?_;rfl)|refine ye (by assumption) ?_))
  exact Wp.ret ⟨by unfold pcC;rfl,Mx.at3.1,Mx.at4.1,Mx.tch⟩
 |false=>
  unfold pcC at Mx;rw[he] at Mx
  repeat(first|(with_reducible apply Wp.obind;first|exact z5 _ _|exact z6 _|exact z8 _ _ _)|((with_reducible apply y21 Mx);rfl)|((with_reducible apply y16 Mx);rfl)|((with_reducible apply y41 Mx);exact Nat.le_of_ble_eq_true rfl;rfl;clear Mx;intro _ Mx)|((with_reducible apply y20 Mx);rfl)|((with_reducible apply y24 Mx);rfl;rfl;(rfl);clear Mx;intro _ Mx)|((with_reducible apply y1b Mx);rfl)|(with_reducible first|refine yc (fun _ _=>?_)|refine Wp.lett ?_|(refine y7 ?_ ?_;rfl)|refine ye (by assumption) ?_))
  exact Wp.ret ⟨by unfold pcC;rfl,Mx.at3.1,Mx.at4.1,Mx.tch⟩
theorem z453(g1:GrowT z28 6 [c1] kv1 T01)(rH:RowsAt H T01)(hT0:∀y∈T01,y.1 ∉ [b,nb])(hn:64<n)(hu:u+t1.sz<1000000)(e:PieceW n (d+2) b nb H c1 t1)(hN:NtOk N)(hne:b≠nb)(kb:RowH H b TBl [.ptr nb 0,.int .i64 (u:Int)])(hbH:b<H.next)(kn:RowH H nb TNet (netC N))(hnH:nb<H.next)(hv:kv1.one=true):Wp (z1d (world n (d+2)) n (.ptr b 0) (z96 6 [a,b',c',d'] kv1) H) (z333 b nb H (⟨(z58 t1 N u).1.empty||decide (6=5),(z58 t1 N u).1.first,(z58 t1 N u).1.last⟩,(z58 t1 N u).2.1.follow (z58 t1 N u).1.last (z58 t1 N u).1.first,(z58 t1 N u).2.2)):=by
 unfold z1d;have Mx:=y38 kb hbH kn hnH hne;have o1:=zb3 (op:=6) (w:=[a,b',c',d']) hv;refine y15 Mx o1 fun h1 M1=>?_;clear Mx;have Mx:=M1;clear M1;have hr:=z115 t1 (u:=u) hN
 repeat(first|(with_reducible apply Wp.obind;first|exact z5 _ _|exact z8 _ _ _)|((with_reducible apply y30 Mx);rfl)|((with_reducible apply y9 Mx);clear Mx;intro _ Mx)|(with_reducible first|refine yc (fun _ _=>?_)|refine Wp.lett ?_)|((with_reducible refine y8 ?_ ?_;apply z88);omega)|((with_reducible refine y7 ?_ ?_;apply z99);omega)|(with_reducible refine ye (by assumption) ?_)|rw[z10])
 obtain⟨p1,_,x1,y1⟩:=(z1ea g1 (rH.keepS Mx.tch hT0)).row (i:=0) (by simp);have x2:z1a6 6 kv1 0=some (.ptr p1 (0*6)):=x1;have y2:z18 _ 6 (.ptr p1 (0*6))=some c1:=y1;clear x1 y1
 repeat(((with_reducible apply Wp.obind);(with_reducible first|exact x2|exact y2)))
 obtain⟨h3,e3,kb3,kn3,t3⟩:=e N u _ hN (by omega) Mx.tch Mx.at2.1 Mx.at3.1;refine Wp.callN e3 ?_;clear e3 x2 y2;have M3:=y34 (xs:=[_,_]) Mx t3 kb3 kn3;clear Mx;have Mx:=M3;clear M3;simp only[List.cons_append,List.nil_append] at Mx
 repeat(first|(with_reducible apply Wp.obind;exact z5 _ _)|((with_reducible apply y21 Mx);rfl)|((with_reducible apply y11 Mx);rfl;rfl;(rfl);clear Mx;intro _ Mx)|((with_reducible apply y9 Mx);clear Mx;intro _ Mx)|(with_reducible apply Wp.obind;exact z13 _)|rw[z10])
 obtain⟨h5,e5,kn5,t5⟩:=z355 (n:=n) (d:=d+1) hr.n hr.p.f hr.p.l (by omega) hne Mx.at3.1 Mx.at3.2.1 Mx.at4.1;refine Wp.callN e5 ?_;clear e5;have M5:=y18 (xs:=[_,_,_,_]) Mx t5 kn5;clear Mx;have Mx:=M5;clear M5;simp only[List.cons_append,List.nil_append] at Mx;cases he:(z58 t1 N u).1.empty with
 |true=>
  unfold pcC at Mx;rw[he] at Mx
  repeat(first|(with_reducible apply Wp.obind;exact z6 _)|((with_reducible apply y21 Mx);rfl)|((with_reducible apply y16 Mx);rfl)|((with_reducible apply y41 Mx);exact Nat.le_of_ble_eq_true rfl;rfl;clear Mx;intro _ Mx)|((with_reducible apply y20 Mx);rfl)|((with_reducible apply y24 Mx);rfl;rfl;(rfl);clear Mx;intro _ Mx)|(with_reducible first|refine yc (fun _ _=>?_)|(refine y8 ?_ ?_;rfl)|refine ye (by assumption) ?_))
  exact Wp.ret ⟨by unfold pcC;rfl,Mx.at3.1,Mx.at4.1,Mx.tch⟩
 |false=>
  unfold pcC at Mx;rw[he] at Mx
  repeat(first|(with_reducible apply Wp.obind;first|exact z5 _ _|exact z6 _|exact z8 _ _ _)|((with_reducible apply y21 Mx);rfl)|((with_reducible apply y16 Mx);rfl)|((with_reducible apply y41 Mx);exact Nat.le_of_ble_eq_true rfl;rfl;clear Mx;intro _ Mx)|((with_reducible apply y20 Mx);rfl)|((with_reducible apply y24 Mx);rfl;rfl;(rfl);clear Mx;intro _ Mx)|((with_reducible apply y1b Mx);rfl)|(with_reducible first|refine yc (fun _ _=>?_)|refine Wp.lett ?_|(refine y7 ?_ ?_;rfl)|refine ye (by assumption) ?_))
  exact Wp.ret ⟨by unfold pcC;rfl,Mx.at3.1,Mx.at4.1,Mx.tch⟩
theorem z496(g1:GrowT z28 6 [c1] kv1 T01)(rH:RowsAt H T01)(hT0:∀y∈T01,y.1 ∉ [b,nb])(hu:u+t1.sz<1000000)(e:PieceW n (d+2) b nb H c1 t1)(hN:NtOk N)(hne:b≠nb)(kb:RowH H b TBl [.ptr nb 0,.int .i64 (u:Int)])(hbH:b<H.next)(kn:RowH H nb TNet (netC N))(hnH:nb<H.next)(hv:kv1.one=true):Wp (z1d (world n (d+2)) n (.ptr b 0) (z96 7 [a,b',c',d'] kv1) H) (z333 b nb H (⟨true,(z58 t1 N u).1.first,(z58 t1 N u).1.last⟩,(z58 t1 N u).2.1,(z58 t1 N u).2.2)):=by
 unfold z1d;have Mx:=y38 kb hbH kn hnH hne;have o1:=zb3 (op:=7) (w:=[a,b',c',d']) hv;refine y15 Mx o1 fun h1 M1=>?_;clear Mx;have Mx:=M1;clear M1;have hr:=z115 t1 (u:=u) hN
 repeat(first|(with_reducible apply Wp.obind;first|exact z5 _ _|exact z8 _ _ _)|((with_reducible apply y30 Mx);rfl)|((with_reducible apply y9 Mx);clear Mx;intro _ Mx)|(with_reducible first|refine yc (fun _ _=>?_)|refine Wp.lett ?_)|((with_reducible refine y8 ?_ ?_;apply z88);omega)|((with_reducible refine y7 ?_ ?_;apply z99);omega)|(with_reducible refine ye (by assumption) ?_)|rw[z10])
 obtain⟨p1,_,x1,y1⟩:=(z1ea g1 (rH.keepS Mx.tch hT0)).row (i:=0) (by simp);have x2:z1a6 6 kv1 0=some (.ptr p1 (0*6)):=x1;have y2:z18 _ 6 (.ptr p1 (0*6))=some c1:=y1;clear x1 y1
 repeat(((with_reducible apply Wp.obind);(with_reducible first|exact x2|exact y2)))
 obtain⟨h3,e3,kb3,kn3,t3⟩:=e N u _ hN (by omega) Mx.tch Mx.at2.1 Mx.at3.1;refine Wp.callN e3 ?_;clear e3 x2 y2;have M3:=y34 (xs:=[_,_]) Mx t3 kb3 kn3;clear Mx;have Mx:=M3;clear M3;simp only[List.cons_append,List.nil_append] at Mx
 repeat(first|((with_reducible apply y16 Mx);rfl)|((with_reducible apply y41 Mx);exact Nat.le_of_ble_eq_true rfl;rfl;clear Mx;intro _ Mx)|((with_reducible apply y11 Mx);rfl;rfl;(rfl);clear Mx;intro _ Mx)|((with_reducible apply y20 Mx);rfl)|((with_reducible apply y24 Mx);rfl;rfl;(rfl);clear Mx;intro _ Mx)|((with_reducible apply y9 Mx);clear Mx;intro _ Mx)|(with_reducible apply Wp.obind;exact z13 _)|rw[z10])
 exact Wp.ret ⟨rfl,Mx.at3.1,Mx.at4.1,Mx.tch⟩
end
open Go.RowKit Abs
mutual
theorem z41b:∀(t:Nd) {c:List AV} {T:List ze7} {D n b nb:Nat} {h:AHeap},z3c4 t→NodeT t c T→RowsAt h T→(∀y∈T,y.1 ∉ [b,nb])→b<h.next→nb<h.next→b≠nb→t.sz+2≤D→t.sz+256<n→t.sz<1000000→PieceW n D b nb h c t
 | .mk op w ks,_,_,0,n,b,nb,h,_,_,_,_,_,_,_,hD,_,_=>by omega
 | .mk op w ks,c,T,D+1,n,b,nb,h,⟨on1,on2⟩,k1,r1,hT,hb,hnb,hne,hD,hn,hz=>by
  intro N u H hN hu tH kb kn;rw[Nd.sz] at hD hn hz hu;have hsl:=z3cc ks
  cases k1 with
  |mk hw g1 ks1=>
   rename_i kc1 kv1 T01 T11;have hT0:∀y∈T01,y.1 ∉ [b,nb]:=fun y hy=>hT y (List.mem_append_left _ hy);have hT1:∀y∈T11,y.1 ∉ [b,nb]:=fun y hy=>hT y (List.mem_append_right _ hy);have hl1:=ks1.len;have hK:∀c∈kc1,c.length=6∧c.all AV.one=true:=g1.1;obtain⟨a,b',c',d',rfl⟩:=z40b hw;have hbH:=Nat.lt_of_lt_of_le hb tH.1;have hnH:=Nat.lt_of_lt_of_le hnb tH.1;obtain⟨d,rfl⟩:∃d,D=d+2:=⟨D - 2,by omega⟩;have hv:=g1.one.1;have rH:=(r1.left.keepS tH hT0);have kk:=(z385 ks (D:=d+2) (n:=n) on2 ks1 r1.right hT1 hb hnb hne (by omega) (by omega) (by omega)).keep tH;apply Wp.ex;rw[z20c,z58]
   by_cases h2:op=2
   ·subst h2
    rw[if_pos rfl];exact(z495 hw (by omega) (by omega) hN hne kb hbH kn hnH hv).mono fun _ _ k=>k
   rw[if_neg h2]
   by_cases h3:op=3
   ·subst h3
    rw[if_pos rfl];exact(z497 g1 rH hT0 hK (by omega) (by omega) (by omega) (by omega) kk hN hne kb hbH kn hnH hv).mono fun _ _ k=>k
   rw[if_neg h3]
   by_cases h4:op=4
   ·subst h4
    rw[if_pos rfl];exact(z498 g1 rH hT0 hK (by omega) (by omega) (by omega) kk hN hne kb hbH kn hnH hv).mono fun _ _ k=>k
   rw[if_neg h4]
   by_cases h5:5≤op∧op≤7
   ·have hone := on1.2 h5.1
    match ks,hone,kk,hl1 with
    |[t1],_,kk,hl1=>
     match kc1,hl1,kk,g1 with
     |[c1],_,.cons e _,g1=>
      rw[szL] at hu hsl;simp only[z247]
      by_cases h56:op=5∨op=6
      ·rw [if_pos h56]
       rcases h56 with rfl|rfl
       ·exact(z452 g1 rH hT0 (by omega) (by omega) e hN hne kb hbH kn hnH hv).mono fun _ _ k=>k
       ·exact(z453 g1 rH hT0 (by omega) (by omega) e hN hne kb hbH kn hnH hv).mono fun _ _ k=>k
      rw[if_neg h56]
      obtain rfl:op=7:=by omega
      rw[if_pos rfl];exact(z496 g1 rH hT0 (by omega) e hN hne kb hbH kn hnH hv).mono fun _ _ k=>k
   ·rw [if_neg (by omega), if_neg (by omega)]
    unfold z1d;have Mx:=y38 kb hbH kn hnH hne;have o1:=zb3 (op:=op) (w:=[a,b',c',d']) hv;refine y15 Mx o1 fun h1 M1=>?_;clear Mx;have Mx:=M1;clear M1
    repeat(first|(with_reducible apply Wp.obind;first|exact z5 _ _|exact z8 _ _ _)|((with_reducible apply y16 Mx);rfl)|((with_reducible apply y11 Mx);rfl;rfl;(rfl);clear Mx;intro _ Mx)|((with_reducible apply y30 Mx);rfl)|((with_reducible apply y9 Mx);clear Mx;intro _ Mx)|(with_reducible first|refine yc (fun _ _=>?_)|refine Wp.lett ?_)|((with_reducible refine y7 ?_ ?_;apply z99);omega)|(with_reducible refine ye (by assumption) ?_)|rw[z10])
    exact Wp.ret ⟨rfl,Mx.at2.1,Mx.at3.1,Mx.tch⟩
theorem z385:∀(ks:List Nd) {k1:List (List AV)} {T:List ze7} {D n b nb:Nat} {h:AHeap},oneL ks→KidsT ks k1 T→RowsAt h T→(∀y∈T,y.1 ∉ [b,nb])→b<h.next→nb<h.next→b≠nb→szL ks+2≤D→szL ks+256<n→szL ks<1000000→KidP n D b nb h k1 ks
 |[],_,_,_,_,_,_,_,_,k1,_,_,_,_,_,_,_,_=>by
  cases k1
  exact .nil
 |t::ks,_,_,D,n,b,nb,h,⟨p1,p2⟩,k1,r1,hT,hb,hnb,hne,hD,hn,hN=>by
  rw[szL] at hD hn hN
  cases k1 with
  |cons a1 b1=>exact .cons (z41b t p1 a1 r1.left (fun y hy=>hT y (List.mem_append_left _ hy)) hb hnb hne (by omega) (by omega) (by omega)) (z385 ks p2 b1 r1.right (fun y hy=>hT y (List.mem_append_right _ hy)) hb hnb hne (by omega) (by omega) (by omega))
end
section
variable {u:z11}{i:Nat}
theorem atom_esc{c:Nat}{r:Res}(h1:at? u i=some 92)(h2:at? u (i+1)=some c)(k:AtomP u i r):r=.ok (z3c3 c,i+2):=by
 cases k with
 |none h=>rw[h1] at h;cases h
 |open_bad h m=>rw[h1] at h;cases h
 |open_end h m n=>rw[h1] at h;cases h
 |group h m n=>rw[h1] at h;cases h
 |any h=>rw[h1] at h;cases h
 |set_bad h m=>rw[h1] at h;cases h
 |set h m=>rw[h1] at h;cases h
 |sl_end h n=>rw[h2] at n;cases n
 |sl h n=>
  rw[h2] at n
  cases n
  rfl
 |bad h b=>
  rw[h1] at h;cases h;unfold z11e at b;omega
 |one h b n=>
  rw[h1] at h;cases h;exact absurd rfl n.2.2.2
end
section
variable {u:z11}
theorem z4ac{w:List Nat}{j:Nat}{r:Except Nat (List Nat×Nat)}(a:LoopP u w j r):∀{r':Except Nat (List Nat×Nat)},LoopP u w j r'→r=r':=by
 induction a with
 |done n=>
  intro r' b
  cases b with
  |done _=>rfl
  |bad n' _=>exact absurd n n'
  |more n' _ _=>exact absurd n n'
 |bad n h=>
  intro r' b
  cases b with
  |done n'=>exact absurd n' n
  |bad n' h'=>
   rw[h] at h';cases h';rfl
  |more n' h' _=>
   rw[h] at h';cases h'
 |more n h m ih=>
  intro r' b
  cases b with
  |done n'=>exact absurd n' n
  |bad n' h'=>
   rw[h] at h';cases h'
  |more n' h' m'=>
   rw[h] at h';cases h';exact ih m'
theorem z29d{i:Nat}{r r':Except Nat (List Nat×Nat)}(a:SetP u i r)(b:SetP u i r'):r=r':=by
 cases a with
 |bad h=>
  cases b with
  |bad h'=>
   rw[h] at h';cases h';rfl
  |set h' _=>
   rw[h] at h';cases h'
 |set h m=>
  cases b with
  |bad h'=>
   rw[h] at h';cases h'
  |set h' m'=>
   rw[h] at h';cases h';rw[z4ac m m']
mutual
theorem zf0:∀{l:List Nd} {i:Nat} {r r':Res},AltP u l i r→AltP u l i r'→r=r'
 |_,_,_,_,.bad h,.bad h'=>by
  cases z132 h h'
  rfl
 |_,_,_,_,.bad h,.last h' _=>by cases z132 h h'
 |_,_,_,_,.bad h,.more h' _ _=>by cases z132 h h'
 |_,_,_,_,.last h _,.bad h'=>by cases z132 h h'
 |_,_,_,_,.last h _,.last h' _=>by
  cases z132 h h'
  rfl
 |_,_,_,_,.last h n,.more h' n' _=>by
  cases z132 h h'
  exact absurd n' n
 |_,_,_,_,.more h _ _,.bad h'=>by cases z132 h h'
 |_,_,_,_,.more h n _,.last h' n'=>by
  cases z132 h h'
  exact absurd n n'
 |_,_,_,_,.more h n m,.more h' n' m'=>by
  cases z132 h h'
  exact zf0 m m'
termination_by structural _ _ _ _ a=>a
theorem z132:∀{l:List Nd} {i:Nat} {r r':Res},RowP u l i r→RowP u l i r'→r=r'
 |_,_,_,_,.stop s,.stop _=>rfl
 |_,_,_,_,.stop s,.bad s' _=>absurd s s'
 |_,_,_,_,.stop s,.more s' _ _=>absurd s s'
 |_,_,_,_,.bad s _,.stop s'=>absurd s' s
 |_,_,_,_,.bad _ h,.bad _ h'=>by
  cases z239 h h'
  rfl
 |_,_,_,_,.bad _ h,.more _ h' _=>by cases z239 h h'
 |_,_,_,_,.more s _ _,.stop s'=>absurd s' s
 |_,_,_,_,.more _ h _,.bad _ h'=>by cases z239 h h'
 |_,_,_,_,.more _ h m,.more _ h' m'=>by
  cases z239 h h'
  exact z132 m m'
termination_by structural _ _ _ _ a=>a
theorem z239:∀{i:Nat} {r r':Res},PartP u i r→PartP u i r'→r=r'
 |_,_,_,.bad h,.bad h'=>by
  cases z11f h h'
  rfl
 |_,_,_,.bad h,.bare h' _=>by cases z11f h h'
 |_,_,_,.bad h,.sign h' _=>by cases z11f h h'
 |_,_,_,.bare h _,.bad h'=>by cases z11f h h'
 |_,_,_,.bare h _,.bare h' _=>by
  cases z11f h h'
  rfl
 |_,_,_,.bare h n,.sign h' n'=>by
  cases z11f h h'
  exact absurd n n'
 |_,_,_,.sign h _,.bad h'=>by cases z11f h h'
 |_,_,_,.sign h n,.bare h' n'=>by
  cases z11f h h'
  exact absurd n' n
 |_,_,_,.sign h _,.sign h' _=>by
  cases z11f h h'
  rfl
termination_by structural _ _ _ a=>a
theorem z11f:∀{i:Nat} {r r':Res},AtomP u i r→AtomP u i r'→r=r'
 |_,_,_,.none h,b=>by
  cases b<;>first|rfl|(rename_i h' _;rw[h] at h';cases h';done)|(rename_i h' _ _;rw[h] at h';cases h';done)|(rename_i h';rw[h] at h';cases h';done)
 |_,_,_,.open_bad h m,b=>by
  cases b with
  |open_bad h' m'=>
   cases zf0 m m'
   rfl
  |open_end h' m' n'=>cases zf0 m m'
  |group h' m' n'=>cases zf0 m m'
  |none h'=>rw[h] at h';cases h'
  |any h'=>rw[h] at h';cases h'
  |set_bad h' _=>rw[h] at h';cases h'
  |set h' _=>rw[h] at h';cases h'
  |sl_end h' _=>rw[h] at h';cases h'
  |sl h' _=>rw[h] at h';cases h'
  |bad h' b'=>rw[h] at h';cases h';unfold z11e at b';omega
  |one h' _ n'=>rw[h] at h';cases h';exact absurd rfl n'.1
 |_,_,_,.open_end h m n,b=>by
  cases b with
  |open_bad h' m'=>cases zf0 m m'
  |open_end h' m' n'=>
   cases zf0 m m'
   rfl
  |group h' m' n'=>
   cases zf0 m m'
   exact absurd n' n
  |none h'=>rw[h] at h';cases h'
  |any h'=>rw[h] at h';cases h'
  |set_bad h' _=>rw[h] at h';cases h'
  |set h' _=>rw[h] at h';cases h'
  |sl_end h' _=>rw[h] at h';cases h'
  |sl h' _=>rw[h] at h';cases h'
  |bad h' b'=>rw[h] at h';cases h';unfold z11e at b';omega
  |one h' _ n'=>rw[h] at h';cases h';exact absurd rfl n'.1
 |_,_,_,.group h m n,b=>by
  cases b with
  |open_bad h' m'=>cases zf0 m m'
  |open_end h' m' n'=>
   cases zf0 m m'
   exact absurd n n'
  |group h' m' n'=>
   cases zf0 m m'
   rfl
  |none h'=>rw[h] at h';cases h'
  |any h'=>rw[h] at h';cases h'
  |set_bad h' _=>rw[h] at h';cases h'
  |set h' _=>rw[h] at h';cases h'
  |sl_end h' _=>rw[h] at h';cases h'
  |sl h' _=>rw[h] at h';cases h'
  |bad h' b'=>rw[h] at h';cases h';unfold z11e at b';omega
  |one h' _ n'=>rw[h] at h';cases h';exact absurd rfl n'.1
 |_,_,_,.any h,b=>by
  cases b with
  |any h'=>rfl
  |none h'=>rw[h] at h';cases h'
  |open_bad h' _=>rw[h] at h';cases h'
  |open_end h' _ _=>rw[h] at h';cases h'
  |group h' _ _=>rw[h] at h';cases h'
  |set_bad h' _=>rw[h] at h';cases h'
  |set h' _=>rw[h] at h';cases h'
  |sl_end h' _=>rw[h] at h';cases h'
  |sl h' _=>rw[h] at h';cases h'
  |bad h' b'=>rw[h] at h';cases h';unfold z11e at b';omega
  |one h' _ n'=>rw[h] at h';cases h';exact absurd rfl n'.2.1
 |_,_,_,.set_bad h m,b=>by
  cases b with
  |set_bad h' m'=>cases z29d m m';rfl
  |set h' m'=>cases z29d m m'
  |any h'=>rw[h] at h';cases h'
  |none h'=>rw[h] at h';cases h'
  |open_bad h' _=>rw[h] at h';cases h'
  |open_end h' _ _=>rw[h] at h';cases h'
  |group h' _ _=>rw[h] at h';cases h'
  |sl_end h' _=>rw[h] at h';cases h'
  |sl h' _=>rw[h] at h';cases h'
  |bad h' b'=>rw[h] at h';cases h';unfold z11e at b';omega
  |one h' _ n'=>rw[h] at h';cases h';exact absurd rfl n'.2.2.1
 |_,_,_,.set h m,b=>by
  cases b with
  |set_bad h' m'=>cases z29d m m'
  |set h' m'=>cases z29d m m';rfl
  |any h'=>rw[h] at h';cases h'
  |none h'=>rw[h] at h';cases h'
  |open_bad h' _=>rw[h] at h';cases h'
  |open_end h' _ _=>rw[h] at h';cases h'
  |group h' _ _=>rw[h] at h';cases h'
  |sl_end h' _=>rw[h] at h';cases h'
  |sl h' _=>rw[h] at h';cases h'
  |bad h' b'=>rw[h] at h';cases h';unfold z11e at b';omega
  |one h' _ n'=>rw[h] at h';cases h';exact absurd rfl n'.2.2.1
 |_,_,_,.sl_end h m,b=>by
  cases b with
  |sl_end h' _=>rfl
  |sl h' m'=>rw[m] at m';cases m'
  |set_bad h' m'=>rw[h] at h';cases h'
  |set h' m'=>rw[h] at h';cases h'
  |any h'=>rw[h] at h';cases h'
  |none h'=>rw[h] at h';cases h'
  |open_bad h' _=>rw[h] at h';cases h'
  |open_end h' _ _=>rw[h] at h';cases h'
  |group h' _ _=>rw[h] at h';cases h'
  |bad h' b'=>rw[h] at h';cases h';unfold z11e at b';omega
  |one h' _ n'=>rw[h] at h';cases h';exact absurd rfl n'.2.2.2
 |_,_,_,.sl h m,b=>(atom_esc h m b).symm
 |_,_,_,.bad h b1,b=>by
  unfold z11e at b1
  cases b with
  |bad h' b'=>rfl
  |one h' b' n'=>rw[h] at h';cases h';exact absurd b1 b'
  |sl_end h' _=>rw[h] at h';cases h';omega
  |sl h' m'=>rw[h] at h';cases h';omega
  |set_bad h' m'=>rw[h] at h';cases h';omega
  |set h' m'=>rw[h] at h';cases h';omega
  |any h'=>rw[h] at h';cases h';omega
  |none _=>rfl
  |open_bad h' _=>rw[h] at h';cases h';omega
  |open_end h' _ _=>rw[h] at h';cases h';omega
  |group h' _ _=>rw[h] at h';cases h';omega
 |_,_,_,.one h b1 n,b=>by
  obtain⟨n1,n2,n3,n4⟩:=n
  cases b with
  |bad h' b'=>rw[h] at h';cases h';exact absurd b' b1
  |one h' b' n'=>rw[h] at h';cases h';rfl
  |sl_end h' _=>rw[h] at h';cases h';exact absurd rfl n4
  |sl h' m'=>rw[h] at h';cases h';exact absurd rfl n4
  |set_bad h' m'=>rw[h] at h';cases h';exact absurd rfl n3
  |set h' m'=>rw[h] at h';cases h';exact absurd rfl n3
  |any h'=>rw[h] at h';cases h';exact absurd rfl n2
  |none h'=>rw[h] at h';cases h'
  |open_bad h' _=>rw[h] at h';cases h';exact absurd rfl n1
  |open_end h' _ _=>rw[h] at h';cases h';exact absurd rfl n1
  |group h' _ _=>rw[h] at h';cases h';exact absurd rfl n1
termination_by structural _ _ _ a=>a
end
end
section
variable {a u:z11}{k:Nat}
theorem z3e3{w w':List Nat}{i j:Nat}(h:z118 a w i=.ok (w',j)):i<j∧j≤a.length:=by
 unfold z118 at h
 split at h
 ·cases h
 ·rename_i c j' h1
  obtain⟨_,h2,h3⟩:=z1a2 h1
  split at h
  ·split at h
   ·cases h
   ·rename_i e k h4
    obtain⟨_,h5,h6⟩:=z1a2 h4
    split at h
    ·cases h
    ·cases h
     exact⟨by omega,h6⟩
  ·cases h
   exact⟨h2,h3⟩
theorem z396{w:List Nat}{j:Nat}{r:Except Nat (List Nat×Nat)}(x:LoopP a w j r):j≤a.length→(∀w' j',r=.ok (w',j')→j<j'∧j'≤a.length)∧∀e,r=.error e→e≤a.length:=by
 induction x with
 |done n=>
  intro hj;obtain⟨hp,_⟩:=at?_some n;refine⟨fun w' j' e=>?_,fun e he=>by cases he⟩
  cases e
  exact⟨by omega,by omega⟩
 |bad n h=>
  intro hj;refine⟨fun w' j' e=>(by cases e),fun e he=>?_⟩;cases he;exact z1a1 hj h
 |more n h m ih=>
  intro hj;obtain⟨b1,b2⟩:=z3e3 h;obtain⟨c1,c2⟩:=ih b2;refine⟨fun w' j' e=>?_,c2⟩;obtain⟨d1,d2⟩:=c1 w' j' e;exact⟨by omega,d2⟩
theorem z414{i:Nat}(hi:i≤a.length):i≤z48b a i∧z48b a i≤a.length:=by
 unfold z48b
 by_cases h94:at? a i=some 94
 ·obtain ⟨hp, _⟩ := at?_some h94
  rw[if_pos h94];omega
 ·rw [if_neg h94]
  omega
theorem setP_bad{i e:Nat}(x:SetP a i (.error e))(hi:i≤a.length):e≤a.length:=by
 obtain⟨s1,s2⟩:=z414 hi
 generalize hr:Except.error e=r at x
 cases x with
 |bad h=>
  cases hr;exact z1a1 s2 h
 |set h m=>
  rename_i w j r;obtain⟨b1,b2⟩:=z3e3 h
  cases r with
  |error e'=>
   cases hr;exact(z396 m b2).2 _ rfl
  |ok wj=>cases hr
theorem z413{i j:Nat}{w:List Nat}(x:SetP a i (.ok (w,j)))(hi:i≤a.length):i<j∧j≤a.length:=by
 obtain⟨s1,s2⟩:=z414 hi
 generalize hr:Except.ok (w,j)=r at x
 cases x with
 |bad h=>cases hr
 |set h m=>
  rename_i w' j' r;obtain⟨b1,b2⟩:=z3e3 h
  cases r with
  |error e'=>cases hr
  |ok wj=>
   obtain⟨w2,j2⟩:=wj;cases hr;obtain⟨c1,c2⟩:=(z396 m b2).1 _ _ rfl;exact⟨by omega,c2⟩
mutual
theorem z1ae:∀{l:List Nd} {i:Nat} {r:Res},AltP a l i r→i≤a.length→Bnd a i r
 |_,_,_,.bad h,hi=>z1e2 h hi
 |_,_,_,.last h _,hi=>by
  obtain⟨b1,b2⟩:=z1e2 h hi;exact⟨b1,b2⟩
 |_,_,r,.more h n m,hi=>by
  have h1:=z1e2 h hi;obtain⟨hp,_⟩:=at?_some n;have h2:=z1ae m (by omega)
  cases r with
  |error e=>exact h2
  |ok tj=>
   obtain⟨b1,b2⟩:=h1;obtain⟨b3,b4⟩:=h2;exact⟨by omega,b4⟩
termination_by structural _ _ _ x=>x
theorem z1e2:∀{l:List Nd} {i:Nat} {r:Res},RowP a l i r→i≤a.length→Bnd a i r
 |_,_,_,.stop _,hi=>⟨Nat.le_refl _,hi⟩
 |_,_,_,.bad _ h,hi=>z2bb h hi
 |_,_,r,.more _ h m,hi=>by
  obtain⟨b1,b2⟩:=z2bb h hi;have h2:=z1e2 m b2
  cases r with
  |error e=>exact h2
  |ok tj=>
   obtain⟨b3,b4⟩:=h2;exact⟨by omega,b4⟩
termination_by structural _ _ _ x=>x
theorem z2bb:∀{i:Nat} {r:Res},PartP a i r→i≤a.length→Bnd1 a i r
 |_,_,.bad h,hi=>z253 h hi
 |_,_,.bare h _,hi=>z253 h hi
 |_,_,.sign (j:=j) h n,hi=>by
  obtain⟨b1,b2⟩:=z253 h hi
  have:j<a.length:=by
   rcases Nat.lt_or_ge j a.length with h|h
   ·exact h
   ·exfalso
    apply n;unfold z1c8;rw[at?_ge h]
  exact⟨by omega,by omega⟩
termination_by structural _ _ x=>x
theorem z253:∀{i:Nat} {r:Res},AtomP a i r→i≤a.length→Bnd1 a i r
 |_,_,.none _,hi=>hi
 |_,_,.open_bad h m,hi=>by
  obtain⟨hp,_⟩:=at?_some h;exact z1ae m (by omega)
 |_,_,.open_end h m _,hi=>by
  obtain⟨hp,_⟩:=at?_some h;exact(z1ae m (by omega)).2
 |_,_,.group h m n,hi=>by
  obtain⟨hp,_⟩:=at?_some h;obtain⟨b1,_⟩:=z1ae m (by omega);obtain⟨hp2,_⟩:=at?_some n;exact⟨by omega,by omega⟩
 |_,_,.any h,hi=>by
  obtain⟨hp,_⟩:=at?_some h;exact⟨by omega,by omega⟩
 |_,_,.set_bad h m,hi=>by
  obtain⟨hp,_⟩:=at?_some h;exact setP_bad m (by omega)
 |_,_,.set h m,hi=>by
  obtain⟨hp,_⟩:=at?_some h;obtain⟨b1,b2⟩:=z413 m (by omega);exact⟨by omega,b2⟩
 |_,_,.sl_end h _,hi=>by
  obtain⟨hp,_⟩:=at?_some h;exact hp
 |_,_,.sl h n,hi=>by
  obtain⟨hp,_⟩:=at?_some n;exact⟨by omega,by omega⟩
 |_,_,.bad h _,hi=>hi
 |_,_,.one h _ _,hi=>by
  obtain⟨hp,_⟩:=at?_some h;exact⟨by omega,by omega⟩
termination_by structural _ _ x=>x
end
end
theorem z22d:∀(l:List Nd) (t:Nd),szL (l++[t])=szL l+t.sz+1
 |[],t=>by
  simp only[List.nil_append,szL];omega
 |k::l,t=>by
  rw[List.cons_append,szL,z22d l t,szL];omega
theorem z351(op:Nat):∀l:List Nd,(z222 op l).sz≤szL l+1
 |[]=>Nat.le_add_left 1 _
 |[t]=>by
  rw[szL,szL];show t.sz≤_;omega
 |_::_::_=>Nat.le_refl _
section
variable {a:z11}
mutual
theorem z408:∀{l:List Nd} {i:Nat} {r:Res},AltP a l i r→∀t j,r=.ok (t,j)→i≤a.length→t.sz≤szL l+6*(j - i)+(if l=[] then 1 else 3)
 |_,_,_,.bad h,t,j,e,hi=>by cases e
 |l,_,_,.last h n,t,j,e,hi=>by
  have h1:=z3d5 h _ _ rfl hi;rw[szL] at h1
  cases e
  by_cases hl:l=[]
  ·subst hl
   rw[if_pos rfl];show Nd.sz _≤_;simp only[List.nil_append,z222,szL];omega
  ·rw [if_neg hl]
   refine Nat.le_trans (z351 4 _) ?_;rw[z22d];omega
 |l,_,_,.more h n m,t,j,e,hi=>by
  obtain⟨hp,_⟩:=at?_some n;have h1:=z3d5 h _ _ rfl hi;obtain⟨c1,_⟩:=z1e2 h hi;rw[szL] at h1;have h2:=z408 m t j e (by omega);have hb:=z1ae m (by omega);subst e;obtain⟨c2,_⟩:=hb;rw[if_neg (by simp),z22d] at h2
  split<;>omega
termination_by structural _ _ _ x=>x
theorem z3d5:∀{l:List Nd} {i:Nat} {r:Res},RowP a l i r→∀t j,r=.ok (t,j)→i≤a.length→t.sz≤szL l+6*(j - i)+1
 |l,_,_,.stop h,t,j,e,hi=>by
  cases e
  have:=z351 3 l;omega
 |_,_,_,.bad _ h,t,j,e,hi=>by cases e
 |l,_,_,.more n h m,t,j,e,hi=>by
  obtain⟨b1,b2⟩:=z2bb h hi;have h1:=partP_sz h _ _ rfl hi;have h2:=z3d5 m t j e b2;have hb:=z1e2 m b2;subst e;obtain⟨c2,_⟩:=hb;rw[z22d] at h2;omega
termination_by structural _ _ _ x=>x
theorem partP_sz:∀{i:Nat} {r:Res},PartP a i r→∀t j,r=.ok (t,j)→i≤a.length→t.sz+3≤6*(j - i)
 |_,_,.bad h,t,j,e,hi=>by cases e
 |_,_,.bare h n,t,j,e,hi=>z440 h t j e hi
 |_,_,.sign h n,t,j,e,hi=>by
  obtain⟨b1,b2⟩:=z253 h hi;have h1:=z440 h _ _ rfl hi
  cases e
  simp only[z389,Nd.sz,szL];omega
termination_by structural _ _ x=>x
theorem z440:∀{i:Nat} {r:Res},AtomP a i r→∀t j,r=.ok (t,j)→i≤a.length→t.sz+3≤6*(j - i)
 |_,_,.none _,t,j,e,hi=>by cases e
 |_,_,.open_bad h m,t,j,e,hi=>by cases e
 |_,_,.open_end h m _,t,j,e,hi=>by cases e
 |_,_,.group h m n,t,j,e,hi=>by
  obtain⟨hp,_⟩:=at?_some h;have h1:=z408 m _ _ rfl (by omega);obtain⟨b1,_⟩:=z1ae m (by omega);rw[if_pos rfl,szL] at h1
  cases e
  omega
 |_,_,.any h,t,j,e,hi=>by
  cases e
  simp only[anyN,Nd.sz,szL];omega
 |_,_,.set_bad h m,t,j,e,hi=>by cases e
 |_,_,.set h m,t,j,e,hi=>by
  obtain⟨hp,_⟩:=at?_some h;obtain⟨b1,b2⟩:=z413 m (by omega)
  cases e
  simp only[Nd.sz,szL];omega
 |_,_,.sl_end h _,t,j,e,hi=>by cases e
 |_,_,.sl h n,t,j,e,hi=>by
  cases e
  simp only[z3c3,Nd.sz,szL];omega
 |_,_,.bad h _,t,j,e,hi=>by cases e
 |_,_,.one h b n,t,j,e,hi=>by
  cases e
  simp only[z3c3,Nd.sz,szL];omega
termination_by structural _ _ x=>x
end
theorem z478{t:Nd}{j:Nat}(h:AltP a [] 0 (.ok (t,j))):t.sz≤6*a.length+1:=by
 have h1:=z408 h t j rfl (Nat.zero_le _);obtain⟨_,b2⟩:=z1ae h (Nat.zero_le _);rw[if_pos rfl,szL] at h1;omega
end
section
variable {u:z11}
theorem flat_sz{F:Nat→Res}{u:z11}(hF:∀i t j,F i=.ok (t,j)→t.sz≤3∧i<j){l:List Nd}{i:Nat}{r:Res}(k:FlatP F u l i r):∀t,dropJ r=.ok t→t.sz≤szL l+4*(u.length - i)+1:=by
 induction k with
 |stop s=>
  intro t e
  cases e
  refine Nat.le_trans (z351 3 _) ?_;omega
 |bad s h=>
  intro t e
  cases e
 |more s h m ih=>
  intro t e;have h1:=ih t e;obtain⟨h2,h3⟩:=hF _ _ _ h;rw[z22d] at h1;omega
theorem partL_sz(u:z11):∀i t j,z295 u i=.ok (t,j)→t.sz≤3∧i<j:=by
 intro i t j h;unfold z295 at h
 split at h
 ·cases h
 ·cases h
  exact⟨by simp[z3c3,Nd.sz,szL],by omega⟩
theorem partG_sz(u:z11):∀i t j,z346 u i=.ok (t,j)→t.sz≤3∧i<j:=by
 intro i t j h;unfold z346 at h
 split at h
 ·cases h
 split at h
 ·cases h
  exact⟨by simp[z389,anyN,Nd.sz,szL],by omega⟩
 split at h
 ·cases h
  exact⟨by simp[anyN,Nd.sz,szL],by omega⟩
 split at h
 ·split at h
  ·cases h
  ·cases h
   exact⟨by simp[z3c3,Nd.sz,szL],by omega⟩
 ·cases h
  exact⟨by simp[z3c3,Nd.sz,szL],by omega⟩
theorem z2ae{k:Int}{u:z11}{t:Nd}(h:TreeP u k (.ok t)):t.sz≤6*u.length+1:=by
 generalize hr:Except.ok t=r at h
 cases h with
 |lit a=>
  have:=flat_sz (partL_sz u) a t hr.symm;rw[szL] at this;omega
 |glob a=>
  have:=flat_sz (partG_sz u) a t hr.symm;rw[szL] at this;omega
 |re_bad a=>cases hr
 |re_end a ne=>cases hr
 |re a=>
  cases hr;exact z478 a
end
theorem z1cf:∀{l:List Nd} {t:Nd},oneL l→z3c4 t→oneL (l++[t])
 |[],_,_,h=>⟨h,trivial⟩
 |_::_,_,⟨a,b⟩,h=>⟨a,z1cf b h⟩
theorem z2c1{op:Nat}(ho:op<5):∀{l:List Nd},oneL l→z3c4 (z222 op l)
 |[],_=>⟨⟨fun h=>absurd h (by decide),fun h=>absurd h (by decide)⟩,trivial⟩
 |[_],⟨h,_⟩=>h
 |_::_::_,h=>⟨⟨fun _=>List.cons_ne_nil _ _,fun hh=>absurd hh (by omega)⟩,h⟩
theorem z23c(c:Nat):z3c4 (z3c3 c):=⟨⟨fun h=>absurd h (by decide),fun h=>absurd h (by decide)⟩,trivial⟩
theorem z349:z3c4 anyN:=⟨⟨fun h=>absurd h (by decide),fun h=>absurd h (by decide)⟩,trivial⟩
theorem z38e{op:Nat}{t:Nd}(h:z3c4 t):z3c4 (z389 op [t]):=⟨⟨fun _=>List.cons_ne_nil _ _,fun _=>rfl⟩,h,trivial⟩
section
variable {u:z11}
mutual
theorem z2e8:∀{l:List Nd} {i:Nat} {r:Res},AltP u l i r→oneL l→∀t j,r=.ok (t,j)→z3c4 t
 |_,_,_,.bad _,_,_,_,e=>by cases e
 |_,_,_,.last h _,hl,t,j,e=>by
  cases e
  exact z2c1 (by decide) (z1cf hl (z2b7 h trivial _ _ rfl))
 |_,_,_,.more h _ m,hl,t,j,e=>z2e8 m (z1cf hl (z2b7 h trivial _ _ rfl)) t j e
termination_by structural _ _ _ x=>x
theorem z2b7:∀{l:List Nd} {i:Nat} {r:Res},RowP u l i r→oneL l→∀t j,r=.ok (t,j)→z3c4 t
 |_,_,_,.stop _,hl,t,j,e=>by
  cases e
  exact z2c1 (by decide) hl
 |_,_,_,.bad _ _,_,_,_,e=>by cases e
 |_,_,_,.more _ h m,hl,t,j,e=>z2b7 m (z1cf hl (z454 h _ _ rfl)) t j e
termination_by structural _ _ _ x=>x
theorem z454:∀{i:Nat} {r:Res},PartP u i r→∀t j,r=.ok (t,j)→z3c4 t
 |_,_,.bad _,_,_,e=>by cases e
 |_,_,.bare h _,t,j,e=>z32f h t j e
 |_,_,.sign h _,t,j,e=>by
  cases e
  exact z38e (z32f h _ _ rfl)
termination_by structural _ _ x=>x
theorem z32f:∀{i:Nat} {r:Res},AtomP u i r→∀t j,r=.ok (t,j)→z3c4 t
 |_,_,.none _,_,_,e=>by cases e
 |_,_,.open_bad _ _,_,_,e=>by cases e
 |_,_,.open_end _ _ _,_,_,e=>by cases e
 |_,_,.group _ m _,t,j,e=>by
  cases e
  exact z2e8 m trivial _ _ rfl
 |_,_,.any _,t,j,e=>by
  cases e
  exact z349
 |_,_,.set_bad _ _,_,_,e=>by cases e
 |_,_,.set _ _,t,j,e=>by
  cases e
  exact⟨⟨fun h=>absurd h (by decide),fun h=>absurd h (by decide)⟩,trivial⟩
 |_,_,.sl_end _ _,_,_,e=>by cases e
 |_,_,.sl _ _,t,j,e=>by
  cases e
  exact z23c _
 |_,_,.bad _ _,_,_,e=>by cases e
 |_,_,.one _ _ _,t,j,e=>by
  cases e
  exact z23c _
termination_by structural _ _ x=>x
end
theorem z3ac{F:Nat→Res}(hF:∀i t j,F i=.ok (t,j)→z3c4 t){l:List Nd}{i:Nat}{r:Res}(k:FlatP F u l i r):oneL l→∀t,dropJ r=.ok t→z3c4 t:=by
 induction k with
 |stop s=>
  intro hl t e
  cases e
  exact z2c1 (by decide) hl
 |bad s h=>
  intro _ t e
  cases e
 |more s h m ih=>
  intro hl t e;exact ih (z1cf hl (hF _ _ _ h)) t e
theorem z306{k:Int}{t:Nd}(h:TreeP u k (.ok t)):z3c4 t:=by
 generalize hr:Except.ok t=r at h
 cases h with
 |lit a=>
  refine z3ac (F:=z295 u) (fun i t j h=>?_) a trivial t hr.symm;unfold z295 at h
  split at h
  ·cases h
  ·cases h
   exact z23c _
 |glob a=>
  refine z3ac (F:=z346 u) (fun i t j h=>?_) a trivial t hr.symm;unfold z346 at h
  split at h
  ·cases h
  split at h
  ·cases h
   exact z38e z349
  split at h
  ·cases h
   exact z349
  split at h
  ·split at h
   ·cases h
   ·cases h
    exact z23c _
  ·cases h
   exact z23c _
 |re_bad a=>cases hr
 |re_end a ne=>cases hr
 |re a=>
  cases hr;exact z2e8 a trivial _ _ rfl
end
def z20a:Nt:=⟨false,0,0,List.replicate 64 0,List.replicate 256 0⟩
theorem z303:NtOk z20a:=⟨List.length_replicate,List.length_replicate,by decide,by decide,fun x hx=>by rw[List.eq_of_mem_replicate hx];decide,fun x hx=>by rw[List.eq_of_mem_replicate hx];decide⟩
def rawOf(t:Nd):Nt:={(z58 t z20a 0).2.1 with empty:=(z58 t z20a 0).1.empty,first:=(z58 t z20a 0).1.first,last:=(z58 t z20a 0).1.last}
def z150(t:Nd):Nt:=(rawOf t).trim
theorem z419(t:Nd):NtOk (rawOf t):=by
 have:=z115 t (u:=0) z303;exact⟨this.n.fl,this.n.tl,this.p.f,this.p.l,this.n.fs,this.n.ts⟩
theorem netOf_ok(t:Nd):NtOk (z150 t):=(z419 t).trim
theorem z380{S:List Nat}{h0 h:AHeap}{rs T:List ze7}(M:Abs.Mem S h0 h rs)(hs:∀y∈T,y∈rs):RowsAt h T:=fun y hy=>⟨(M.row y (hs y hy)).1,(M.row y (hs y hy)).2.1⟩
theorem apart2{S:List Nat}{h0 h:AHeap}{x y:ze7}{rs T:List ze7}(M:Abs.Mem S h0 h (x::y::rs))(hs:∀z∈T,z∈rs):(∀z∈T,z.1 ∉ [x.1,y.1])∧x.1≠y.1:=by
 have ap:=M.apart;rw[List.map_cons,List.map_cons,List.nodup_cons,List.nodup_cons] at ap;refine⟨fun z hz hm=>?_,fun e=>ap.1 (by rw[e];exact List.mem_cons_self)⟩
 rcases List.mem_cons.1 hm with e|hm
 ·exact ap.1 (List.mem_cons_of_mem _ (by rw[←e];exact List.mem_map_of_mem (hs z hz)))
 ·exact ap.2.1 (by rw[←List.mem_singleton.1 hm];exact List.mem_map_of_mem (hs z hz))
set_option maxRecDepth 100000 in
theorem bldBl(b o:Nat):z252 Tryd.prog TBl [(0,.ptr b o)]=some [.ptr b o,.int .i64 0]:=by kernel_rfl
section
variable {n d:Nat}{h:AHeap}{u:z11}{k:Int}{t:Nd}{c:List AV}{T:List ze7}{H:AHeap}{e1 q:Int}
theorem z49f(he:e1≠0)(ht:∀h,zb6 z28 h.ex=false→world n d 29 [.agg [.int .i64 k,z19 u]] h=some (.ret (.tup [.agg (z96 0 z9b .nsl),.agg [.int .i64 e1,.int .i64 q]]),h))(hx:zb6 z28 h.ex=false):
  world n (d+1) 23 [.agg [.int .i64 k,z19 u]] h=some (.ret (.tup [.nilp,.int .i64 2]),h):=by
 apply Wp.eq;rw[z40c];refine y3c ?_
 suffices hK:Wp (z204 (world n d) n [.int .i64 k,z19 u] h) fun r h'=>r=.ret (.tup [.nilp,.int .i64 2])∧Tch [] h h' from hK.mono fun r h' ⟨e,t⟩=>⟨t.above,by rw[e];rfl,e,rfl⟩
 unfold z204;have Mx:=Mem.nil [] h;have hxN:∀{h1:AHeap} {rs:List ze7},Abs.Mem [] h h1 rs→zb6 z28 h1.ex=false:=fun M=>by rw[M.ex];exact hx
 repeat(first|((with_reducible apply y16 Mx);rfl)|((with_reducible apply y15 Mx);(rfl);clear Mx;intro _ Mx))
 refine Wp.callN (ht _ (hxN Mx)) ?_
 repeat(first|(with_reducible apply Wp.obind;exact z5 _ _)|((with_reducible apply y21 Mx);rfl)|((with_reducible apply y11 Mx);rfl;rfl;(rfl);clear Mx;intro _ Mx)|((with_reducible apply y24 Mx);rfl;rfl;(rfl);clear Mx;intro _ Mx)|((with_reducible apply y9 Mx);clear Mx;intro _ Mx)|(with_reducible first|refine Wp.lett ?_|(apply Wp.obind;first|exact z13 _|exact zd9 _ _|exact zd8 _ _ _))|((with_reducible refine y8 ?_ ?_;apply z184);omega)|rw[z10])
 exact Wp.ret ⟨rfl,Mx.tch⟩
set_option maxRecDepth 100000 in
theorem of_ok(hk1:z3c4 t)(hsz:t.sz<100000)(hd:t.sz+2≤d)(hn:18446744073709551620<n)(ht:∀h,zb6 z28 h.ex=false→∃c T h',world n d 29 [.agg [.int .i64 k,z19 u]] h=some (.ret (.tup [.agg c,.agg [.int .i64 0,.int .i64 0]]),h')∧NodeT t c T∧Abs.Mem [] h h' T)(hx:zb6 z28 h.ex=false):
  ∃nb h',world n (d+1) 23 [.agg [.int .i64 k,z19 u]] h=some (.ret (.tup [.ptr nb 0,.int .i64 0]),h')∧Abs.Mem [] h h' [(nb,TNet,netC (z150 t))]:=by
 suffices hK:Wp (gcR h (z204 (world n d) n [.int .i64 k,z19 u] h)) fun r h'=>∃nb,r=.ret (.tup [.ptr nb 0,.int .i64 0])∧Abs.Mem [] h h' [(nb,TNet,netC (z150 t))] by
  obtain⟨_,h',e,nb,rfl,k2⟩:=hK;rw[←z40c] at e;exact⟨nb,h',e,k2⟩
 suffices hK:Wp (z204 (world n d) n [.int .i64 k,z19 u] h) fun r h'=>∃nb,r=.ret (.tup [.ptr nb 0,.int .i64 0])∧Abs.Mem [] h h' [(nb,TNet,netC (z150 t))] by
  obtain⟨_,h',e,nb,rfl,k2⟩:=hK;refine y5c ⟨_,h',e,⟨nb,rfl,k2⟩,fun _ hl=>?_⟩
  have h1:AV.lo h.next (.ptr nb 0)=true:=by
   have:(AV.lo h.next (.ptr nb 0)&&(AV.lo h.next (.int .i64 0)&&y1f h.next []))=true:=hl;rw[Bool.and_eq_true] at this;exact this.1
  have h2:=k2.at0.2.2.resolve_left (by simp);have h3:nb<h.next:=by simpa [AV.lo] using h1
  omega
 unfold z204;have Mx:=Mem.nil [] h;have hxN:∀{h1:AHeap} {rs:List ze7},Abs.Mem [] h h1 rs→zb6 z28 h1.ex=false:=fun M=>by rw[M.ex];exact hx
 repeat(first|((with_reducible apply y16 Mx);rfl)|((with_reducible apply y15 Mx);(rfl);clear Mx;intro _ Mx))
 obtain⟨c,T,H1,e1,kt1,M1⟩:=ht _ (hxN Mx);refine Wp.callN e1 ?_;have M2:=y3f (xs:=[]) (ys:=[]) Mx M1;clear Mx M1;have Mx:=M2;clear M2;simp only[List.nil_append] at Mx
 repeat(first|((with_reducible apply y9 Mx);clear Mx;intro _ Mx)|(with_reducible apply Wp.obind;first|exact z13 _|exact zd9 _ _|exact zd8 _ _ _)|rw[z10])
 refine y24 Mx kt1.len rfl kt1.one fun h3 M3=>?_;clear Mx;have Mx:=M3;clear M3
 repeat(first|(with_reducible apply Wp.obind;exact z5 _ _)|((with_reducible apply y21 Mx);rfl)|((with_reducible apply y11 Mx);rfl;rfl;(rfl);clear Mx;intro _ Mx)|((with_reducible apply y15 Mx);(rfl);clear Mx;intro _ Mx)|(with_reducible refine Wp.lett ?_)|((with_reducible refine y7 ?_ ?_;apply z16e);omega)|rw[z10])
 have M4:Abs.Mem [] h _ ((_,TNet,netC z20a)::_):=Mx;clear Mx;have Mx:=M4;clear M4
 repeat(first|((with_reducible apply y11 Mx);rfl;rfl;(rfl);clear Mx;intro _ Mx)|((with_reducible apply y9 Mx);clear Mx;intro _ Mx)|(with_reducible apply Wp.obind;exact bldBl _ _))
 refine y3b Mx kt1.len ?_;obtain⟨d2,rfl⟩:∃d2,d=d2+2:=⟨d - 2,by omega⟩;obtain⟨hTn,hne⟩:=apart2 (T:=T) Mx (fun y hy=>by simp[hy]);have rT:=z380 (T:=T) Mx (fun y hy=>by simp[hy]);obtain⟨h5,e5,kb5,kn5,t5⟩:=z41b t (n:=n) (D:=d2+2) hk1 kt1 rT hTn Mx.at0.2.1 Mx.at1.2.1 hne hd (by omega) (by omega) z20a 0 _ z303 (by omega) (Tch.refl _ _) Mx.at0.1 Mx.at1.1;refine Wp.callN e5 ?_;clear e5 hTn rT hne;have M5:=y34 (xs:=[]) Mx t5 kb5 kn5;clear Mx;have Mx:=M5;clear M5;simp only[List.nil_append] at Mx
 repeat(first|(with_reducible apply Wp.obind;first|exact z5 _ _|exact z6 _|exact z12 _ _|exact z8 _ _ _)|((with_reducible apply y21 Mx);rfl)|((with_reducible apply y11 Mx);rfl;rfl;(rfl);clear Mx;intro _ Mx)|((with_reducible apply y30 Mx);rfl)|((with_reducible apply Wp.ms2 Mx);exact Nat.le_of_ble_eq_true rfl;rfl;clear Mx;intro _ Mx)|((with_reducible apply y9 Mx);clear Mx;intro _ Mx)|((with_reducible refine Wp.chk ?_ ?_);focus ((repeat' (first|(with_reducible exact rfl)|(with_reducible apply z174)|((with_reducible apply Mem.re0 Mx);kernel_rfl;rfl)));done))|(with_reducible apply Wp.obind;exact z13 _)|rw[z10])
 obtain⟨h6,e6,kn6,t6⟩:=trim_r (n:=n) (d:=d2) (z419 t) hn (h:=_) Mx.at2.1;refine Wp.callN e6 ?_;have M6:=y18 (xs:=[_,_]) Mx t6 kn6;clear Mx;have Mx:=M6;clear M6;simp only[List.cons_append,List.nil_append] at Mx
 repeat(((with_reducible apply y30 Mx);rfl))
 refine Wp.ret ⟨_,rfl,fun x hx=>Mx.row x ?_,List.nodup_cons.2 ⟨List.not_mem_nil,List.nodup_nil⟩,Mx.tch⟩;rw[List.mem_singleton] at hx;rw[hx];exact List.mem_cons_of_mem _ (List.mem_cons_of_mem _ List.mem_cons_self)
end
abbrev z47b:Nat:=74
def stepN(N:Nt)(st:Bool×Nat)(c:Nat):Bool×Nat:=(true,(if st.1=true then N.behind st.2 else N.first)&&&N.ta.getD c 0)
def z278(N:Nt)(st:Bool×Nat):Bool:=if st.1=true then decide (st.2&&&N.last≠0) else N.empty
def z3fe(N:Nt)(st:Bool×Nat):Bool:=if st.1=true then decide (st.2=0) else !N.empty&&decide (N.first=0)
noncomputable def z44d(nb:Nat)(st:Bool×Nat):List AV:=[.ptr nb 0,.bool st.1,.int .u64 (st.2:Int)]
theorem done_live{N:Nt}{st:Bool×Nat}(h:z278 N st=true):z3fe N st=false:=by
 obtain⟨b,m⟩:=st
 cases b with
 |true=>
  have h2:m&&&N.last≠0:=of_decide_eq_true h;show decide (m=0)=false;rw[decide_eq_false_iff_not];intro e;rw[e,Nat.zero_and] at h2;exact h2 rfl
 |false=>
  have h2:N.empty=true:=h;show (!N.empty&&_)=false;rw[h2];rfl
theorem z449{N:Nt}(k:NtOk N)(st:Bool×Nat)(c:Nat):(stepN N st c).2 <18446744073709551616:=by
 show (if st.1=true then N.behind st.2 else N.first)&&&_<_;refine ze6 ?_
 split
 ·exact N.behind_small k _
 ·exact k.f
section
variable {N:Nt}{n d nb rb:Nat}{h:AHeap}{Q:ARes→AHeap→Prop}{st:Bool×Nat}
set_option maxRecDepth 100000 in
theorem eqRun(b o:Nat)(h:AHeap):zc1 Tryd.prog h .eql 65 true (some (.ptr b o)) (some AV.nilp)=some (.val (.bool false),h):=by kernel_rfl
set_option maxRecDepth 100000 in
theorem eqNet(b o:Nat)(h:AHeap):zc1 Tryd.prog h .eql 52 true (some (.ptr b o)) (some AV.nilp)=some (.val (.bool false),h):=by kernel_rfl
set_option maxRecDepth 100000 in
theorem bldRun(b o:Nat):z252 Tryd.prog z47b [(0,.ptr b o)]=some [.ptr b o,.bool false,.int .u64 0]:=by kernel_rfl
theorem z4a0(kr:RowH h rb z47b (z44d nb st)):world n (d+1) 33 [.ptr rb 0] h=some (.ret (.bool false),h):=by
 apply Wp.eq;rw[z2ed];unfold z10a;have c1:z9 h (.ptr rb (0+0))=some (.ptr nb 0):=y5 kr rfl
 repeat(with_reducible first|refine yc (fun _ _=>?_)|(apply Wp.obind;first|exact c1|exact z6 _|exact z12 _ _|exact z8 _ _ _)|(refine y7 ?_ ?_;rfl)|(apply Wp.outK;first|exact eqRun _ _ _|exact eqNet _ _ _)|refine ye (by assumption) ?_)
 exact Wp.ret ⟨rfl,rfl⟩
theorem done_w(hN:NtOk N)(hs:st.2<18446744073709551616)(kr:RowH h rb z47b (z44d nb st))(kn:RowH h nb TNet (netC N)):world n (d+2) 28 [.ptr rb 0] h=some (.ret (.bool (z278 N st)),h):=by
 apply Wp.eq;rw[z2ef];unfold z10c;have e0:=z4a0 (n:=n) (d:=d) kr;have c1:z9 h (.ptr rb (0+0))=some (.ptr nb 0):=y5 kr rfl;have c2:z9 h (.ptr rb (0+1))=some (.bool st.1):=y5 kr rfl;have c3:z9 h (.ptr rb (0+2))=some (.int .u64 (st.2:Int)):=y5 kr rfl;have c4:z9 h (.ptr nb (0+0))=some (.bool N.empty):=y5 kn rfl;have c5:z9 h (.ptr nb (0+2))=some (.int .u64 (N.last:Int)):=y5 kn rfl;have e1:=z120 hs hN.l;unfold z278
 repeat(with_reducible first|refine Wp.lett ?_|(apply Wp.obind;first|exact c2|exact z6 _|exact z12 _ _|exact z8 _ _ _)|(refine y7 ?_ ?_;rfl)|(apply Wp.callN;exact e0))
 cases hb:st.1 with
 |false=>
  repeat(with_reducible first|(apply Wp.obind;first|exact c1|exact c4|exact z6 _|exact z12 _ _|exact z8 _ _ _)|(refine y8 ?_ ?_;exact Bool.not_false))
  exact Wp.ret ⟨rfl,rfl⟩
 |true=>
  repeat(with_reducible first|refine Wp.lett ?_|(apply Wp.obind;first|exact c1|exact c3|exact c5|exact z5 _ _|exact z12 _ _|exact z8 _ _ _)|(refine y7 ?_ ?_;exact Bool.not_true))
  rw[e1];refine Wp.ret ⟨?_,rfl⟩
  by_cases hz:st.2&&&N.last=0
  ·rw [hz]
   rfl
  ·rw[if_pos rfl,decide_eq_true hz,show (((st.2&&&N.last:Nat):Int) != 0)=true from z184 (by omega)]
theorem dead_w(kr:RowH h rb z47b (z44d nb st))(kn:RowH h nb TNet (netC N)):world n (d+2) 27 [.ptr rb 0] h=some (.ret (.bool (z3fe N st)),h):=by
 apply Wp.eq;rw[z2f0];unfold z10d;have e0:=z4a0 (n:=n) (d:=d) kr;have c1:z9 h (.ptr rb (0+0))=some (.ptr nb 0):=y5 kr rfl;have c2:z9 h (.ptr rb (0+1))=some (.bool st.1):=y5 kr rfl;have c3:z9 h (.ptr rb (0+2))=some (.int .u64 (st.2:Int)):=y5 kr rfl;have c4:z9 h (.ptr nb (0+0))=some (.bool N.empty):=y5 kn rfl;have c5:z9 h (.ptr nb (0+1))=some (.int .u64 (N.first:Int)):=y5 kn rfl
 have hz:∀x:Nat,(((x:Nat):Int) == 0)=decide (x=0):=fun x=>by
  by_cases h0:x=0
  ·rw [h0]
   rfl
  ·rw [decide_eq_false h0]
   exact z99 (by omega)
 unfold z3fe
 repeat(with_reducible first|refine Wp.lett ?_|(apply Wp.obind;first|exact c2|exact z6 _|exact z12 _ _|exact z8 _ _ _)|(refine y7 ?_ ?_;rfl)|(apply Wp.callN;exact e0))
 cases hb:st.1 with
 |false=>
  cases he:N.empty with
  |true=>
   rw[he] at c4
   repeat(with_reducible first|refine yc (fun _ _=>?_)|refine Wp.lett ?_|(apply Wp.obind;first|exact c1|exact c4|exact z6 _|exact z12 _ _|exact z8 _ _ _)|(refine y8 ?_ ?_;exact Bool.not_false)|(refine y7 ?_ ?_;exact Bool.not_true)|refine ye (by assumption) ?_)
   exact Wp.ret ⟨rfl,rfl⟩
  |false=>
   rw[he] at c4
   repeat(with_reducible first|refine yc (fun _ _=>?_)|refine Wp.lett ?_|(apply Wp.obind;first|exact c1|exact c4|exact c5|exact z5 _ _|exact z6 _|exact z12 _ _|exact z8 _ _ _)|(refine y8 ?_ ?_;exact Bool.not_false)|refine ye (by assumption) ?_)
   rw[hz];exact Wp.ret ⟨rfl,rfl⟩
 |true=>
  repeat(with_reducible first|refine Wp.lett ?_|(apply Wp.obind;first|exact c3|exact z5 _ _|exact z12 _ _|exact z8 _ _ _)|(refine y7 ?_ ?_;exact Bool.not_true))
  rw[hz];exact Wp.ret ⟨rfl,rfl⟩
theorem step_r(hT:HasTz h)(hN:NtOk N)(hs:st.2<18446744073709551616)(hn:18446744073709551616<n)(hne:rb≠nb){c:Nat}(hc:c<256)(kr:RowH h rb z47b (z44d nb st))(kn:RowH h nb TNet (netC N))(hnb:nb<h.next):∃h',world n (d+3) 26 [.ptr rb 0,.int .u8 (c:Int)] h=some (.ret (.tup []),h')∧RowH h' rb z47b (z44d nb (stepN N st c))∧Tch [rb] h h':=by
 apply Wp.ex;rw[z2ee];unfold z10b;have e0:=z4a0 (n:=n) (d:=d+1) kr;have c1:z9 h (.ptr rb (0+0))=some (.ptr nb 0):=y5 kr rfl;have c2:z9 h (.ptr rb (0+1))=some (.bool st.1):=y5 kr rfl;have c3:z9 h (.ptr rb (0+2))=some (.int .u64 (st.2:Int)):=y5 kr rfl;have c5:z9 h (.ptr nb (0+1))=some (.int .u64 (N.first:Int)):=y5 kn rfl;have e1:=beh_w (n:=n) (d:=d) hT hN kn hs hn;have e3:=z17a (b:=nb) (o:=0+67) hc
 have fin:∀(m:Nat),m<18446744073709551616→(stepN N st c).2=m&&&N.ta.getD c 0→Wp (obind (z17 h 1 [.bool true] (.ptr rb (0+1))) fun h_25=>
   obind (z74 (.ptr rb 0)) fun t33=>obind (z4d 0 t33) fun t34=>obind (z9 h_25 t34) fun v35=>obind (z74 v35) fun t37=>obind (z4d 67 t37) fun t38=>
   obind (z31a 256 1 t38 (c:Int)) fun t39=>obind (z9 h_25 t39) fun v40=>obind (avInt .u64 v40) fun t40=>lett (z3bd .u64 (m:Int) t40) fun (t41:Int)=>
   obind (z74 (.ptr rb 0)) fun t42=>obind (z4d 2 t42) fun t43=>obind (z17 h_25 1 [.int .u64 t41] t43) fun h_38=>some (.ret (.tup []),h_38))
   fun r h'=>r=.ret (.tup [])∧RowH h' rb z47b (z44d nb (stepN N st c))∧Tch [rb] h h':=by
  intro m hm he;refine Wp.st1 kr (by show 1<3;decide) rfl fun h1 k1 t1 _=>?_;have kn1:=kn.tch t1 hnb (by simpa using fun e=>hne e.symm);have d1:z9 h1 (.ptr rb (0+0))=some (.ptr nb 0):=y5 k1 rfl;have d2:z9 h1 (.ptr nb (0+67+c))=some (.int .u64 (N.ta.getD c 0:Int)):=y5 kn1 (by rw[Nat.zero_add,z4a7 hN hc])
  repeat(with_reducible first|refine Wp.lett ?_|(apply Wp.obind;first|exact d1|exact d2|exact e3|exact z5 _ _|exact z12 _ _|exact z8 _ _ _))
  rw[z120 hm (zd2 hN.ts c), ←he];refine Wp.st1 k1 (by show 2<3;decide) rfl fun h2 k2 t2 _=>?_;exact Wp.ret ⟨rfl,k2,t1.trans t2⟩
 repeat(with_reducible first|refine yc (fun _ _=>?_)|(apply Wp.obind;first|exact c1|exact c2|exact c5|exact z5 _ _|exact z6 _|exact z12 _ _|exact z8 _ _ _)|(refine y7 ?_ ?_;rfl)|(apply Wp.callN;exact e0))
 cases hb:st.1 with
 |true=>
  repeat(with_reducible first|(apply Wp.obind;first|exact c1|exact c3|exact z5 _ _|exact z12 _ _|exact z8 _ _ _)|(refine y8 ?_ ?_;rfl)|(apply Wp.callN;exact e1)|refine ye (by assumption) ?_)
  exact fin (N.behind st.2) (N.behind_small hN _) (by unfold stepN;rw[if_pos hb])
 |false=>
  repeat(with_reducible first|(apply Wp.obind;first|exact z12 _ _|exact z8 _ _ _)|(refine y7 ?_ ?_;rfl)|refine ye (by assumption) ?_)
  exact fin N.first hN.f (by unfold stepN;rw[if_neg (by rw[hb];decide)])
end
section
variable {N:Nt}{n d nb rb:Nat}{h h0:AHeap}{Q:ARes→AHeap→Prop}{st:Bool×Nat}{S:List Nat}{rs:List ze7}
theorem begin_m(M:Abs.Mem S h0 h rs):∃h',world n (d+1) 25 [.ptr nb 0] h=some (.ret (.ptr h.next 0),h')∧Abs.Mem S h0 h' ((h.next,z47b,z44d nb (false,0))::rs):=by
 apply Wp.ex;rw[z2aa];unfold zec;have Mx:=M
 repeat(first|(with_reducible apply Wp.obind;exact z6 _)|((with_reducible apply y15 Mx);(rfl);clear Mx;intro _ Mx)|(with_reducible first|(apply Wp.obind;exact bldRun _ _)|(refine y7 ?_ ?_;rfl)|(apply Wp.outK;exact eqNet _ _ _)))
 exact Wp.ret ⟨rfl,Mx⟩
theorem copy_m(M:Abs.Mem S h0 h rs)(kr:RowH h rb z47b (z44d nb st)):∃h',world n (d+1) 22 [.ptr rb 0] h=some (.ret (.ptr h.next 0),h')∧Abs.Mem S h0 h' ((h.next,z47b,z44d nb st)::rs):=by
 apply Wp.ex;rw[z2f1];unfold z10e;have Mx:=M;have e1:z18 h 3 (.ptr rb 0)=some (z44d nb st):=kr.ldAll rfl
 repeat(first|(with_reducible apply Wp.obind;first|exact z6 _|exact z12 _ _)|((with_reducible apply y11 Mx);rfl;rfl;(rfl);clear Mx;intro _ Mx)|((with_reducible apply y9 Mx);clear Mx;intro _ Mx)|(with_reducible first|(apply Wp.obind;exact e1)|(refine y7 ?_ ?_;rfl)|(apply Wp.outK;exact eqRun _ _ _))|rw[z10])
 refine Wp.ret ⟨rfl,?_⟩;exact Mx
theorem byte_lt{s:z11}{i:Nat}(hi:i<s.length):(s[i]).toNat <256:=(s[i]).toNat_lt
section
variable {u:z11}
theorem z486{u:z11}(l:64<u.length){kind:Int}(hk:kind=1∨kind=2∨kind=3){n D:Nat}{h:AHeap}:world n (D+1) 29 [.agg [.int .i64 kind,z19 u]] h=some (.ret (.tup [.agg (z96 0 z9b .nsl),.agg [.int .i64 3,.int .i64 64]]),h):=by
 rcases hk with rfl|rfl|rfl
 ·apply Wp.eq
  rw[z37];refine y3c ?_
  suffices hK:Wp (z14 (world n D) n [.int .i64 1,z19 u] h) fun r h'=>r=.ret (.tup [.agg (z96 0 z9b .nsl),.agg [.int .i64 3,.int .i64 64]])∧Tch [] h h' from hK.mono fun r h' ⟨e,t⟩=>⟨t.above,by rw[e];rfl,e,rfl⟩
  unfold z14;have ll:=z6a u;have Mx:=Mem.nil [] h
  repeat(first|(with_reducible apply Wp.obind;first|exact z5 _ _|exact z47 _|exact z8 _ _ _)|((with_reducible apply y16 Mx);rfl)|((with_reducible apply y11 Mx);rfl;rfl;(rfl);clear Mx;intro _ Mx)|((with_reducible apply y20 Mx);rfl)|((with_reducible apply y24 Mx);rfl;rfl;(rfl);clear Mx;intro _ Mx)|((with_reducible apply y1b Mx);rfl)|((with_reducible apply y9 Mx);clear Mx;intro _ Mx)|((with_reducible apply y15 Mx);(rfl);clear Mx;intro _ Mx)|(with_reducible first|refine yc (fun _ _=>?_)|refine Wp.lett ?_)|((with_reducible refine y8 ?_ ?_);((with_reducible first|apply decide_eq_true|apply z184);omega))|((with_reducible refine y7 ?_ ?_);first|(with_reducible rfl)|((with_reducible apply z16e);omega))|(with_reducible refine ye (by assumption) ?_)|rw[z10])
  exact Wp.ret ⟨rfl,Mx.tch⟩
 ·apply Wp.eq
  rw[z37];refine y3c ?_
  suffices hK:Wp (z14 (world n D) n [.int .i64 2,z19 u] h) fun r h'=>r=.ret (.tup [.agg (z96 0 z9b .nsl),.agg [.int .i64 3,.int .i64 64]])∧Tch [] h h' from hK.mono fun r h' ⟨e,t⟩=>⟨t.above,by rw[e];rfl,e,rfl⟩
  unfold z14;have ll:=z6a u;have Mx:=Mem.nil [] h
  repeat(first|(with_reducible apply Wp.obind;first|exact z5 _ _|exact z47 _|exact z8 _ _ _)|((with_reducible apply y16 Mx);rfl)|((with_reducible apply y11 Mx);rfl;rfl;(rfl);clear Mx;intro _ Mx)|((with_reducible apply y20 Mx);rfl)|((with_reducible apply y24 Mx);rfl;rfl;(rfl);clear Mx;intro _ Mx)|((with_reducible apply y1b Mx);rfl)|((with_reducible apply y9 Mx);clear Mx;intro _ Mx)|((with_reducible apply y15 Mx);(rfl);clear Mx;intro _ Mx)|(with_reducible first|refine yc (fun _ _=>?_)|refine Wp.lett ?_)|((with_reducible refine y8 ?_ ?_);((with_reducible first|apply decide_eq_true|apply z184);omega))|((with_reducible refine y7 ?_ ?_);first|(with_reducible rfl)|((with_reducible apply z16e);omega))|(with_reducible refine ye (by assumption) ?_)|rw[z10])
  exact Wp.ret ⟨rfl,Mx.tch⟩
 ·apply Wp.eq
  rw[z37];refine y3c ?_
  suffices hK:Wp (z14 (world n D) n [.int .i64 3,z19 u] h) fun r h'=>r=.ret (.tup [.agg (z96 0 z9b .nsl),.agg [.int .i64 3,.int .i64 64]])∧Tch [] h h' from hK.mono fun r h' ⟨e,t⟩=>⟨t.above,by rw[e];rfl,e,rfl⟩
  unfold z14;have ll:=z6a u;have Mx:=Mem.nil [] h
  repeat(first|(with_reducible apply Wp.obind;first|exact z5 _ _|exact z47 _|exact z8 _ _ _)|((with_reducible apply y16 Mx);rfl)|((with_reducible apply y11 Mx);rfl;rfl;(rfl);clear Mx;intro _ Mx)|((with_reducible apply y20 Mx);rfl)|((with_reducible apply y24 Mx);rfl;rfl;(rfl);clear Mx;intro _ Mx)|((with_reducible apply y1b Mx);rfl)|((with_reducible apply y9 Mx);clear Mx;intro _ Mx)|((with_reducible apply y15 Mx);(rfl);clear Mx;intro _ Mx)|(with_reducible first|refine yc (fun _ _=>?_)|refine Wp.lett ?_)|((with_reducible refine y8 ?_ ?_);((with_reducible first|apply decide_eq_true|apply z184);omega))|((with_reducible refine y7 ?_ ?_;apply z16e);omega)|(with_reducible refine ye (by assumption) ?_)|rw[z10])
  exact Wp.ret ⟨rfl,Mx.tch⟩
end
end
mutual
def z16b:Nd→Bool
 | .mk op _ ks=>if op=1∨op=5∨op=7 then true else if op=3∨op=6 then allN ks else if op=4 then z3cd ks else false
def allN:List Nd→Bool
 |[]=>true
 |k::ks=>z16b k&&allN ks
def z3cd:List Nd→Bool
 |[]=>false
 |k::ks=>z16b k||z3cd ks
end
inductive KidB (fid:Nat) (h:AHeap) (D n:Nat):List (List AV)→List Nd→Prop
 |nil:KidB fid h D n [] []
 |cons {c:List AV} {t:Nd} {l:List (List AV)} {ks:List Nd} (e:∀h',Tch [] h h'→world n D fid [.agg c] h'=some (.ret (.bool (z16b t)),h')) (k:KidB fid h D n l ks):KidB fid h D n (c::l) (t::ks)
section
variable {h0 H:AHeap}{n D:Nat}{kv:AV}{K:List (List AV)}{T:List ze7}{Q:ARes→AHeap→Prop}
theorem z387{k27:AHeap→R}(g:GrowT z28 6 K kv T)(r:RowsAt h0 T)(hK:∀c∈K,c.length=6∧c.all AV.one=true)(hn:K.length<1000000):∀(l:List (List AV)) (ks:List Nd) (i f:Nat) (H:AHeap),KidB 32 h0 D n l ks→K.drop i=l→K.length - i<f→Tch [] h0 H→
  (allN ks=true→∀H',Tch [] h0 H'→Wp (k27 H') Q)→(allN ks=false→∀H',Tch [] h0 H'→Q (.ret (.bool false)) H')→Wp (z9d (world n D) kv (K.length:Int) k27 f (i:Int) H) Q
 |_,_,_,0,_,_,_,hf,_,_,_=>by omega
 |l,ks,i,f+1,H,kk,d1,hf,ht,hk,hq=>by
  rw[z177];unfold zea
  cases kk with
  |nil=>
   have:=drop_nil d1
   repeat(first|(with_reducible refine Wp.lett ?_)|((with_reducible refine y7 ?_ ?_;apply decide_eq_false);omega))
   exact hk rfl H ht
  |cons e k=>
   rename_i c t m ks;obtain⟨hi1,hc,d2⟩:=z16d d1;obtain⟨p1,_,x1,y1⟩:=(Slc.keep g r ht).row hi1;obtain⟨l6,o6⟩:=hK _ (List.getElem_mem hi1);rw[hc] at y1 l6 o6;have Mx:=Mem.nil [] H
   repeat(first|((with_reducible apply y9 Mx);clear Mx;intro _ Mx)|(with_reducible first|refine Wp.lett ?_|(apply Wp.obind;first|exact x1|exact y1))|((with_reducible refine y8 ?_ ?_;apply decide_eq_true);omega)|rw[z10])
   refine y11 Mx l6 rfl o6 fun h2 M2=>?_;refine y16 M2 l6 ?_;have es:=e h2 (ht.trans M2.tch);have ei:(i:Int)+1=((i+1:Nat):Int):=by omega
   cases hb:z16b t with
   |true=>
    rw[hb] at es
    repeat(first|((with_reducible refine yf ?_ ?_ ?_);omega;omega)|(with_reducible first|refine Wp.lett ?_|(apply Wp.obind;exact z6 _)|(refine y7 ?_ ?_;exact Bool.not_true)|(apply Wp.callN;exact es)))
    rw[ei];refine z387 g r hK hn m ks (i+1) f h2 k d2 (by omega) (ht.trans M2.tch) (fun h=>hk ?_) fun h=>hq ?_
    ·rw[allN,hb,h];rfl
    ·rw[allN,hb,h];rfl
   |false=>
    rw[hb] at es
    repeat(with_reducible first|refine Wp.lett ?_|(apply Wp.obind;exact z6 _)|(refine y8 ?_ ?_;exact Bool.not_false)|(apply Wp.callN;exact es))
    exact Wp.ret (hq (by rw[allN,hb];rfl) _ (ht.trans M2.tch))
theorem z30d{k62:AHeap→R}(g:GrowT z28 6 K kv T)(r:RowsAt h0 T)(hK:∀c∈K,c.length=6∧c.all AV.one=true)(hn:K.length<1000000):∀(l:List (List AV)) (ks:List Nd) (i f:Nat) (H:AHeap),KidB 32 h0 D n l ks→K.drop i=l→K.length - i<f→Tch [] h0 H→
  (z3cd ks=false→∀H',Tch [] h0 H'→Wp (k62 H') Q)→(z3cd ks=true→∀H',Tch [] h0 H'→Q (.ret (.bool true)) H')→Wp (zc8 (world n D) kv (K.length:Int) k62 f (i:Int) H) Q
 |_,_,_,0,_,_,_,hf,_,_,_=>by omega
 |l,ks,i,f+1,H,kk,d1,hf,ht,hk,hq=>by
  rw[z176];unfold ze9
  cases kk with
  |nil=>
   have:=drop_nil d1
   repeat(first|(with_reducible refine Wp.lett ?_)|((with_reducible refine y7 ?_ ?_;apply decide_eq_false);omega))
   exact hk rfl H ht
  |cons e k=>
   rename_i c t m ks;obtain⟨hi1,hc,d2⟩:=z16d d1;obtain⟨p1,_,x1,y1⟩:=(Slc.keep g r ht).row hi1;obtain⟨l6,o6⟩:=hK _ (List.getElem_mem hi1);rw[hc] at y1 l6 o6;have Mx:=Mem.nil [] H
   repeat(first|((with_reducible apply y9 Mx);clear Mx;intro _ Mx)|(with_reducible first|refine Wp.lett ?_|(apply Wp.obind;first|exact x1|exact y1))|((with_reducible refine y8 ?_ ?_;apply decide_eq_true);omega)|rw[z10])
   refine y11 Mx l6 rfl o6 fun h2 M2=>?_;refine y16 M2 l6 ?_;have es:=e h2 (ht.trans M2.tch);have ei:(i:Int)+1=((i+1:Nat):Int):=by omega
   cases hb:z16b t with
   |false=>
    rw[hb] at es
    repeat(first|((with_reducible refine yf ?_ ?_ ?_);omega;omega)|(with_reducible first|(apply Wp.obind;exact z6 _)|(refine y7 ?_ ?_;rfl)|(apply Wp.callN;exact es)))
    rw[ei];refine z30d g r hK hn m ks (i+1) f h2 k d2 (by omega) (ht.trans M2.tch) (fun h=>hk ?_) fun h=>hq ?_
    ·rw[z3cd,hb,h];rfl
    ·rw[z3cd,hb,h];rfl
   |true=>
    rw[hb] at es
    repeat(with_reducible first|(apply Wp.obind;exact z6 _)|(refine y8 ?_ ?_;rfl)|(apply Wp.callN;exact es))
    exact Wp.ret (hq (by rw[z3cd,hb];rfl) _ (ht.trans M2.tch))
end
mutual
theorem z388:∀(t:Nd) {c:List AV} {T:List ze7} {D n:Nat} {h:AHeap},NodeT t c T→RowsAt h T→t.sz≤D→t.sz<n→t.sz<1000000→world n D 32 [.agg c] h=some (.ret (.bool (z16b t)),h)
 | .mk op w ks,_,_,0,n,h,_,_,hD,_,_=>by
  rw[Nd.sz] at hD;omega
 | .mk op w ks,c,T,D+1,n,h,k1,r1,hD,hn,hN=>by
  rw[Nd.sz] at hD hn hN;have hsl:=z3cc ks
  cases k1 with
  |mk hw g1 ks1=>
   rename_i kc1 kv1 T01 T11;have kk:=z30e ks (D:=D) (n:=n) ks1 r1.right (by omega) (by omega) (by omega);have hl1:=ks1.len;have hK:∀c∈kc1,c.length=6∧c.all AV.one=true:=g1.1;obtain⟨a,b,c,d,rfl⟩:=z40b hw;apply Wp.eq;rw[z2a7];refine y3c ?_
   suffices hK:Wp (zbf (world n D) n (z96 op [a,b,c,d] kv1) h) fun r h'=>r=.ret (.bool (z16b (.mk op [a,b,c,d] ks)))∧Tch [] h h' from hK.mono fun r h' ⟨e,t⟩=>⟨t.above,by rw[e];rfl,e,rfl⟩
   unfold zbf;have Mx:=Mem.nil [] h;have o1:=zb3 (op:=op) (w:=[a,b,c,d]) g1.one.1;have len1:=g1.len;refine y15 Mx o1 fun h1 M1=>?_;clear Mx;have Mx:=M1;clear M1;rw[z16b]
   by_cases h157:op=1∨op=5∨op=7
   ·rw [if_pos h157]
    rcases h157 with rfl|rfl|rfl
    ·repeat (first | (with_reducible apply Wp.obind; first | exact z5 _ _ | exact z8 _ _ _) | ((with_reducible apply y21 Mx); rfl) | (with_reducible first | refine yc (fun _ _ => ?_) | refine Wp.lett ?_) | ((with_reducible refine y8 ?_ ?_); first | (with_reducible rfl) | ((with_reducible apply z88); omega)) | (with_reducible refine ye (by assumption) ?_))
     exact Wp.ret ⟨rfl,Mx.tch⟩
    ·repeat (first | (with_reducible apply Wp.obind; first | exact z5 _ _ | exact z8 _ _ _) | ((with_reducible apply y21 Mx); rfl) | (with_reducible first | refine yc (fun _ _ => ?_) | refine Wp.lett ?_) | ((with_reducible refine y8 ?_ ?_); first | (with_reducible rfl) | ((with_reducible apply z88); omega)) | ((with_reducible refine y7 ?_ ?_; apply z99); omega) | (with_reducible refine ye (by assumption) ?_))
     exact Wp.ret ⟨rfl,Mx.tch⟩
    ·repeat (first | (with_reducible apply Wp.obind; first | exact z5 _ _ | exact z8 _ _ _) | ((with_reducible apply y21 Mx); rfl) | (with_reducible first | refine yc (fun _ _ => ?_) | refine Wp.lett ?_) | ((with_reducible refine y8 ?_ ?_; apply z88); omega) | ((with_reducible refine y7 ?_ ?_; apply z99); omega) | (with_reducible refine ye (by assumption) ?_))
     exact Wp.ret ⟨rfl,Mx.tch⟩
   rw[if_neg h157]
   by_cases h36:op=3∨op=6
   ·rw [if_pos h36]
    have fin:∀{k27:AHeap→R},(k27=fun h_28=>some (.ret (.bool true),h_28))→Wp (z9d (world n D) kv1 (kc1.length:Int) k27 n 0 h1) fun r h'=>r=.ret (.bool (allN ks))∧Tch [] h h':=by
     intro k27 ek;refine z387 (h0:=h) g1 r1.left hK (by omega) kc1 ks 0 n h1 kk List.drop_zero (by omega) Mx.tch (fun ha H' t=>?_) fun ha H' t=>?_
     ·rw [ek, ha]
      exact Wp.ret ⟨rfl,t⟩
     ·rw [ha]
      exact⟨rfl,t⟩
    rcases h36 with rfl|rfl
    ·repeat (first | (with_reducible apply Wp.obind; first | exact z5 _ _ | exact z8 _ _ _) | ((with_reducible apply y21 Mx); rfl) | (with_reducible first | (first | refine y10 (fun _ _ => ?_) | refine yc (fun _ _ => ?_)) | refine Wp.lett ?_ | (apply Wp.obind; exact len1)) | ((with_reducible refine y8 ?_ ?_; apply z88); omega) | ((with_reducible refine y7 ?_ ?_; apply z99); omega) | (with_reducible refine ye (by assumption) ?_))
     exact fin (by assumption)
    ·repeat (first | (with_reducible apply Wp.obind; first | exact z5 _ _ | exact z8 _ _ _) | ((with_reducible apply y21 Mx); rfl) | (with_reducible first | (first | refine y10 (fun _ _ => ?_) | refine yc (fun _ _ => ?_)) | refine Wp.lett ?_ | (apply Wp.obind; exact len1)) | ((with_reducible refine y8 ?_ ?_); first | (with_reducible rfl) | ((with_reducible apply z88); omega)) | ((with_reducible refine y7 ?_ ?_; apply z99); omega) | (with_reducible refine ye (by assumption) ?_))
     exact fin (by assumption)
   rw[if_neg h36]
   by_cases h4:op=4
   ·rw [if_pos h4]
    subst h4
    repeat(first|(with_reducible apply Wp.obind;first|exact z5 _ _|exact z8 _ _ _)|((with_reducible apply y21 Mx);rfl)|(with_reducible first|(first|refine y10 (fun _ _=>?_)|refine yc (fun _ _=>?_))|refine Wp.lett ?_|(apply Wp.obind;exact len1))|((with_reducible refine y8 ?_ ?_;apply z88);omega)|((with_reducible refine y7 ?_ ?_;apply z99);omega)|(with_reducible refine ye (by assumption) ?_))
    refine z30d (h0:=h) g1 r1.left hK (by omega) kc1 ks 0 n h1 kk List.drop_zero (by omega) Mx.tch (fun ha H' t=>?_) fun ha H' t=>?_
    ·repeat ((with_reducible refine y26 (by assumption) ?_))
     rw[ha];exact Wp.ret ⟨rfl,t⟩
    ·rw [ha]
     exact⟨rfl,t⟩
   ·rw [if_neg h4]
    repeat(first|(with_reducible apply Wp.obind;first|exact z5 _ _|exact z8 _ _ _)|((with_reducible apply y21 Mx);rfl)|(with_reducible first|(first|refine y10 (fun _ _=>?_)|refine yc (fun _ _=>?_))|refine Wp.lett ?_)|((with_reducible refine y7 ?_ ?_;apply z99);omega)|(with_reducible first|refine y26 (by assumption) ?_|refine ye (by assumption) ?_))
    exact Wp.ret ⟨rfl,Mx.tch⟩
theorem z30e:∀(ks:List Nd) {k1:List (List AV)} {T:List ze7} {D n:Nat} {h:AHeap},KidsT ks k1 T→RowsAt h T→szL ks≤D→szL ks<n→szL ks<1000000→KidB 32 h D n k1 ks
 |[],_,_,_,_,_,k1,_,_,_,_=>by
  cases k1
  exact .nil
 |t::ks,_,_,D,n,h,k1,r1,hD,hn,hN=>by
  rw[szL] at hD hn hN
  cases k1 with
  |cons a1 b1=>exact .cons (fun h' th=>z388 t a1 (r1.left.keep th) (by omega) (by omega) (by omega)) (z30e ks b1 r1.right (by omega) (by omega) (by omega))
end
theorem empty_w{k:Int}{u:z11}{t:Nd}{n D:Nat}(hn:1000<n)(hD:1000≤D)(hsz:t.sz<900)(ht:∀h,zb6 z28 h.ex=false→∃c T h',world n D 29 [.agg [.int .i64 k,z19 u]] h=some (.ret (.tup [.agg c,.agg [.int .i64 0,.int .i64 0]]),h')∧NodeT t c T∧Abs.Mem [] h h' T){h:AHeap}(hx:zb6 z28 h.ex=false):world n (D+1) 24 [.agg [.int .i64 k,z19 u]] h=some (.ret (.bool (z16b t)),h):=by
 have hxN:∀{h1:AHeap} {rs:List ze7},Abs.Mem [] h h1 rs→zb6 z28 h1.ex=false:=fun M=>by rw[M.ex];exact hx
 apply Wp.eq;rw[z2a8];refine y3c ?_
 suffices hK:Wp (zc0 (world n D) n [.int .i64 k,z19 u] h) fun r h'=>r=.ret (.bool (z16b t))∧Tch [] h h' from hK.mono fun r h' ⟨e,t⟩=>⟨t.above,by rw[e];rfl,e,rfl⟩
 unfold zc0;have Mx:=Mem.nil [] h
 repeat(first|((with_reducible apply y16 Mx);rfl)|((with_reducible apply y15 Mx);(rfl);clear Mx;intro _ Mx))
 obtain⟨c1,T1,H1,e1,kt1,M1⟩:=ht _ (hxN Mx);refine Wp.callN e1 ?_;have M2:=y3f (xs:=[]) (ys:=[]) Mx M1;refine Wp.obind (zd9 _ _) (Wp.obind (z13 _) (Wp.obind (zd8 _ _ _) (Wp.obind (z13 _) ?_)));refine y9 M2 fun h27 M3=>y9 M3 fun h29 M4=>?_;rw[z10,z10];refine y24 M4 kt1.len rfl kt1.one fun h31 M5=>y11 M5 rfl rfl rfl fun h33 M6=>?_;have r1:RowsAt h33 T1:=z380 M6 (fun y hy=>by simp[hy]);have f1:z18 h33 6 (.ptr H1.next 0)=some c1:=RowH.ldAll M6.at1.1 kt1.len;have es:=z388 (D:=D) (n:=n) (h:=h33) t kt1 r1 (by omega) (by omega) (by omega);clear Mx;have Mx:=M6;clear M1 M2 M3 M4 M5 M6
 repeat(first|(with_reducible apply Wp.obind;first|exact z5 _ _|exact z6 _)|((with_reducible apply y21 Mx);rfl)|(with_reducible first|refine yc (fun _ _=>?_)|refine Wp.lett ?_|(apply Wp.obind;exact f1))|((with_reducible refine y8 ?_ ?_;apply z88);omega)|(with_reducible first|(apply Wp.callN;exact es)|refine ye (by assumption) ?_))
 exact Wp.ret ⟨rfl,Mx.tch⟩
theorem arm_all(k:Int)(u:z11){n d:Nat}(hn:18446744073709551620<n)(hd:1100≤d):(∀h:AHeap,zb6 z28 h.ex=false→world n (d+1) 23 [.agg [.int .i64 k,z19 u]] h=some (.ret (.tup [.nilp,.int .i64 2]),h))∨
  ∃t,TreeP u k (.ok t)∧u.length≤64∧∀h:AHeap,zb6 z28 h.ex=false→(∃nb h',world n (d+1) 23 [.agg [.int .i64 k,z19 u]] h=some (.ret (.tup [.ptr nb 0,.int .i64 0]),h')∧Abs.Mem [] h h' [(nb,TNet,netC (z150 t))])∧world n (d+1) 24 [.agg [.int .i64 k,z19 u]] h=some (.ret (.bool (z16b t)),h):=by
 obtain⟨D,rfl⟩:∃D,d=D+3:=⟨d - 3,by omega⟩
 by_cases hk:k=1∨k=2∨k=3
 ·by_cases hl : 64 < u.length
  ·exact .inl fun h hx=>z49f (e1:=3) (q:=64) (by decide) (fun h hx=>z486 hl hk) hx
  ·obtain ⟨r, r1, _, r3⟩ := (z305 (u := u) (by omega) hk).2 (by omega)
   cases r with
   |error q=>exact .inl fun h hx=>z49f (e1:=6) (q:=(q:Int)) (by decide) (fun h hx=>r3 (by omega) (by omega) hx) hx
   |ok t=>
    have hz:=z2ae r1;exact .inr ⟨t,r1,by omega,fun h hx=>⟨of_ok (z306 r1) (by omega) (by omega) hn (fun h hx=>r3 (by omega) (by omega) hx) hx,empty_w (by omega) (by omega) (by omega) (fun h hx=>r3 (by omega) (by omega) hx) hx⟩⟩
 ·exact .inl fun h hx=>z49f (e1:=2) (q:=0) (by decide) (fun h hx=>z487 hk) hx
abbrev z208:Nat:=67
abbrev z193:Nat:=53
abbrev z257:Nat:=55
abbrev z186:=Nat×(Bool×Nat)×Nat
noncomputable def z28b(x:z186):List AV:=[.ptr x.1 0,.int .i64 (x.2.2:Int)]
noncomputable def z76:List z186→List AV
 |[]=>[]
 |x::l=>z28b x++z76 l
theorem z83:∀l:List z186,(z76 l).length=2*l.length
 |[]=>rfl
 |x::l=>by
  have:=z83 l;rw[z76,List.length_append,List.length_cons,this];show 2+_=_;omega
theorem z133:∀a b:List z186,z76 (a++b)=z76 a++z76 b
 |[],_=>rfl
 |x::a,b=>by rw[List.cons_append,z76,z76,z133 a b,List.append_assoc]
def RunsAt(h:AHeap)(nb:Nat)(l:List z186):Prop:=∀x∈l,RowH h x.1 z47b (z44d nb x.2.1)∧x.1<h.next∧x.2.1.2<18446744073709551616
theorem RunsAt.tch{S:List Nat}{h h':AHeap}{nb:Nat}{l:List z186}(k:RunsAt h nb l)(t:Tch S h h')(hd:∀x∈l,x.1 ∉ S):RunsAt h' nb l:=fun x hx=>
 ⟨(k x hx).1.tch t (k x hx).2.1 (hd x hx),Nat.lt_of_lt_of_le (k x hx).2.1 t.1,(k x hx).2.2⟩
def VAt(h:AHeap)(v:AV)(A:List AV)(m:Nat):Prop:=(v=.nsl∧A=[]∧m=0)∨∃c rest,v=.sl c 0 m 2∧A.length=2*m∧RowH h c z208 (A++rest)∧c<h.next
def zb0:AV→List Nat
 | .sl c _ _ _=>[c]
 |_=>[]
theorem VAt.tch{S:List Nat}{h h':AHeap}{v:AV}{A:List AV}{m:Nat}(k:VAt h v A m)(t:Tch S h h')(hd:∀b∈zb0 v,b ∉ S):VAt h' v A m:=by
 rcases k with k|⟨c,rest,rfl,h1,h2,h3⟩
 ·exact .inl k
 ·exact .inr ⟨c,rest,rfl,h1,h2.tch t h3 (hd c (List.mem_singleton.2 rfl)),Nat.lt_of_lt_of_le h3 t.1⟩
theorem VAt.one{h:AHeap}{v:AV}{A:List AV}{m:Nat}(k:VAt h v A m):v.one=true∧AV.cells v=[v]:=by
 rcases k with⟨rfl,_⟩|⟨c,rest,rfl,_⟩<;>exact⟨rfl,rfl⟩
theorem VAt.lt{h:AHeap}{v:AV}{A:List AV}{m:Nat}(k:VAt h v A m):∀b∈zb0 v,b<h.next:=by
 rcases k with⟨rfl,_⟩|⟨c,rest,rfl,_,_,h3⟩
 ·exact fun b hb=>nomatch hb
 ·intro b hb
  rw[List.mem_singleton.1 hb];exact h3
theorem fitWay:fitB Tryd.prog z208 16=true:=by kernel_rfl
theorem VAt.push{h:AHeap}{v:AV}{A r:List AV}{m b1:Nat}(k:VAt h v A m)(kr:RowH h b1 z208 r)(hr:r.length=2)(hr1:r.all AV.one=true)(hm:m<1000000)(hx:zb6 z208 h.ex=false):
  ∃h',z4b Tryd.prog h z193 z193 v (.sl b1 0 1 2)=some (.val (.sl h.next 0 (m+1) 2),h')∧RowH h' h.next z208 (A++r)∧h.next<h'.next∧Tch (zb0 v) h h':=by
 have he:Abs.elemOf Tryd.prog z193=some z208:=by kernel_rfl
 have hu:z18c Tryd.prog z193=true:=by kernel_rfl
 have hsz:Tryd.prog.cellsOf z208=2:=by kernel_rfl
 rcases k with⟨rfl,rfl,rfl⟩|⟨c,rest,rfl,h1,h2,h3⟩
 ·have a1 := z192 (P := Tryd.prog) (h := h) (t := z193) (u := z193) (n := 0) (x := .sl b1 0 1 2) he hu hsz rfl (z11d kr hr) (z82 fitWay (by omega) (by omega)) hr1 hx
  exact⟨_,a1,RowH.new _ _ _,Nat.lt_succ_self _,Tch.newH _ _ _ _⟩
 ·have a1 := z12e (P := Tryd.prog) (h := h) (t := z193) (u := z193) (b := c) (o := 0) (m := m) (n := 0) (x := .sl b1 0 1 2) (cs := A) he hu hsz rfl (z11d kr hr) (z82 fitWay (by omega) (by omega)) hr1 hx (by
   have:=h2.part (o:=0) (n:=A.length) (by rw[List.length_append];omega);rw[List.drop_zero,List.take_left' rfl] at this;rw[show m*2=A.length by omega];exact this) h2.type
  refine⟨_,a1,RowH.new (h.put c .dead) z208 (A++r),Nat.lt_succ_self _,?_⟩;exact(Tch.put (S:=[c]) (.inl (List.mem_singleton.2 rfl)) _).trans (Tch.newH _ _ _ _)
theorem z410{P:Program}{h:AHeap}{t e:TypeId}{b m sz k:Nat}{k1:IntKind}(he:Abs.elemOf P t=some e)(hi:(P.info? e).isSome=true)(hsz:P.cellsOf e=sz)(h1:k≤m):
  zbc P h t (.sl b 0 m sz) none (some (.int k1 (k:Int)))=some (.val (.sl b 0 k sz),h):=by
 have b1:zad (some (AV.int k1 (k:Int))) m=some k:=rfl;have b2:zad none 0=some 0:=rfl;simp only[zbc,z197,b1,b2,he];rw[if_pos ⟨Nat.ble_eq_true_of_le (Nat.zero_le k),Nat.ble_eq_true_of_le h1,hsz.symm,hi⟩,if_neg (fun hc=>by have:=Nat.le_of_ble_eq_true hc.2;omega),Nat.zero_mul,Nat.add_zero,Nat.sub_zero]
noncomputable def z228:Nat→List AV
 |0=>[]
 |m+1=>[.nilp,.int .i64 0]++z228 m
theorem z258:∀m,(z228 m).length=2*m
 |0=>rfl
 |m+1=>by
  have:=z258 m;rw[z228,List.length_append,this];show 2+_=_;omega
theorem z302:∀m,(z228 m).all AV.one=true
 |0=>rfl
 |m+1=>by
  rw[z228,List.all_append,z302 m];rfl
theorem z301:∀m,(List.replicate m [AV.nilp,.int .i64 0]).flatten=z228 m
 |0=>rfl
 |m+1=>by rw[List.replicate_succ,List.flatten_cons,z301 m,z228]
theorem clear_sl{h:AHeap}{c j m:Nat}{l:List AV}(k:RowH h c z208 l)(hl:2*j+2*m≤l.length):∃h',z1ce Tryd.prog h z193 (.sl c (2*j) m 2)=some (.val (.tup []),h')∧RowH h' c z208 (laid l (2*j) (z228 m))∧h'.next=h.next∧Tch [c] h h':=by
 obtain⟨h',e1,e2,e3,e4,e5⟩:=k.put (vs:=z228 m) (o:=2*j) (by rw[z258];omega) (z302 m);refine⟨h',?_,e2,e3,z307 e3 e4 e5 (.inl (List.mem_singleton.2 rfl))⟩;have he:Abs.elemOf Tryd.prog z193=some z208:=by kernel_rfl
 have hz:(z1ba Tryd.prog z208).map AV.cells=some [.nilp,.int .i64 0]:=by kernel_rfl
 have hsz:2=Tryd.prog.cellsOf z208:=by kernel_rfl
 obtain⟨z,hz1,hz2⟩:=Option.map_eq_some_iff.1 hz;unfold z1ce;rw[he];dsimp only;rw[hz1];dsimp only;rw[if_pos hsz,hz2,z301,e1]
section
variable {n d ab o m live:Nat}{h:AHeap}{cells A:List AV}{v:AV}
theorem z1f4(ka:RowH h ab z257 cells)(hv:cells[o+1]? =some v)(hab:ab<h.next)(k:VAt h v A m)(hl:live≤m)(hd:ab ∉ zb0 v):
  ∃v' h',world n (d+1) 21 [.ptr ab o,.int .i64 (live:Int)] h=some (.ret (.tup []),h')∧RowH h' ab z257 (cells.set (o+1) v')∧VAt h' v' (A.take (2*live)) live∧zb0 v'=zb0 v∧h'.next=h.next∧Tch (ab::zb0 v) h h':=by
 have hlen:o+1<cells.length:=by
  apply Nat.lt_of_not_le;intro hh;rw[List.getElem?_eq_none hh] at hv;cases hv
 suffices hK:Wp (world n (d+1) 21 [.ptr ab o,.int .i64 (live:Int)] h) fun r h'=>∃v',r=.ret (.tup [])∧RowH h' ab z257 (cells.set (o+1) v')∧VAt h' v' (A.take (2*live)) live∧zb0 v'=zb0 v∧h'.next=h.next∧Tch (ab::zb0 v) h h' by
  obtain⟨_,h',e,v',rfl,k⟩:=hK;exact⟨v',h',e,k⟩
 rw[z28f];unfold zd1;have cv:=y5 ka hv
 rcases k with⟨rfl,rfl,rfl⟩|⟨c,rest,rfl,h1,h2,h3⟩
 ·obtain rfl : live = 0 := by omega
  have s1:zbc Tryd.prog h z193 .nsl (some (.int .i64 ((0:Nat):Int))) none=some (.val .nsl,h):=by kernel_rfl
  have s2:z1ce Tryd.prog h z193 .nsl=some (.val (.tup []),h):=by kernel_rfl
  have s3:zbc Tryd.prog h z193 .nsl none (some (.int .i64 ((0:Nat):Int)))=some (.val .nsl,h):=by kernel_rfl
  repeat(with_reducible first|(apply Wp.obind;first|exact z12 _ _|exact cv|exact z8 _ _ _)|(apply Wp.outK;first|exact s1|exact s2|exact s3))
  refine Wp.st1 ka hlen rfl fun h4 k4 t4 n4=>?_;exact Wp.ret ⟨.nsl,rfl,k4,.inl ⟨rfl,List.take_nil,rfl⟩,rfl,n4,t4⟩
 ·have he : Abs.elemOf Tryd.prog z193 = some z208 := by kernel_rfl
  have hi:(Tryd.prog.info? z208).isSome=true:=by kernel_rfl
  have hsz:Tryd.prog.cellsOf z208=2:=by kernel_rfl
  have hne:ab≠c:=fun e=>hd (e▸List.mem_singleton.2 rfl)
  have fin:∀{h2:AHeap} {l2:List AV},RowH h2 c z208 l2→l2.take (2*live)=A.take (2*live)→2*live≤l2.length→h2.next=h.next→Tch [c] h h2→Wp (Abs.obind (z74 (.ptr ab o)) fun t12=>Abs.obind (z4d 1 t12) fun t13=>Abs.obind (z9 h2 t13) fun v14=>Abs.outK (zbc Tryd.prog h2 z193 v14 none (some (.int .i64 (live:Int)))) fun v16 h_12=>Abs.obind (z74 (.ptr ab o)) fun t17=>Abs.obind (z4d 1 t17) fun t18=>Abs.obind (z17 h_12 1 (AV.cells v16) t18) fun h_16=>some (.ret (.tup []),h_16)) fun r h'=>∃v',r=.ret (.tup [])∧RowH h' ab z257 (cells.set (o+1) v')∧VAt h' v' (A.take (2*live)) live∧zb0 v'=zb0 (.sl c 0 m 2)∧h'.next=h.next∧Tch (ab::zb0 (.sl c 0 m 2)) h h':=by
   intro h2 l2 k2 e2 hl2 n2 t2;have ka2:=ka.tch t2 hab (by simpa using hne);have cv2:=y5 ka2 hv;have s3:=z410 (P:=Tryd.prog) (h:=h2) (b:=c) (k1:=.i64) he hi hsz hl
   repeat(with_reducible first|(apply Wp.obind;first|exact z12 _ _|exact cv2|exact z8 _ _ _)|(apply Wp.outK;exact s3))
   refine Wp.st1 ka2 hlen rfl fun h4 k4 t4 n4=>?_;refine Wp.ret ⟨.sl c 0 live 2,rfl,k4,.inr ⟨c,l2.drop (2*live),rfl,?_,?_,?_⟩,rfl,n4.trans n2,?_⟩
   ·rw [← e2, List.length_take]
    omega
   ·rw [← e2, List.take_append_drop]
    exact k2.tch t4 (by rw[n2];exact h3) (by simpa using hne.symm)
   ·rw [n4, n2]
    exact h3
   ·exact(t2.mono (fun b hb=>.inl (List.mem_cons_of_mem _ hb))).trans (t4.mono (fun b hb=>.inl (by rw[List.mem_singleton.1 hb];exact List.mem_cons_self)))
  by_cases hlm:live=m∧0<live
  ·obtain ⟨rfl, h0⟩ := hlm
   have s1:=z37b (P:=Tryd.prog) (h:=h) (b:=c) (o:=0) (k1:=.i64) he hi hsz h0;have s2:z1ce Tryd.prog h z193 .esl=some (.val (.tup []),h):=by kernel_rfl
   refine Wp.obind (z12 _ _) (Wp.obind (z8 _ _ _) (Wp.obind cv (Wp.outK s1 (Wp.outK s2 ?_))));exact fin h2 (by rw[List.take_append_of_le_length (by omega)]) (by rw[List.length_append];omega) rfl (Tch.refl _ _)
  ·have s1 := z25e (P := Tryd.prog) (h := h) (b := c) (o := 0) (m := m) (l1 := live) (k1 := .i64) he hi hsz hl hlm
   rw[show 0+live*2=2*live by omega] at s1;obtain⟨h5,s2,k5,n5,t5⟩:=clear_sl (j:=live) (m:=m - live) h2 (by rw[List.length_append];omega);refine Wp.obind (z12 _ _) (Wp.obind (z8 _ _ _) (Wp.obind cv (Wp.outK s1 (Wp.outK s2 ?_))));have hll:2*live≤(A++rest).length:=by rw[List.length_append];omega
   refine fin k5 ?_ ?_ n5 t5
   ·unfold laid
    rw[List.append_assoc,List.take_append_of_le_length (by rw[List.length_take];omega),List.take_take,Nat.min_self,List.take_append_of_le_length (by omega)]
   ·rw [z12a (by rw [z258, List.length_append]; omega)]
    exact hll
end
def z44a(N:Nt)(c:Nat)(x:z186):z186:=(x.1,stepN N x.2.1 c,x.2.2)
def zbb(N:Nt)(c:Nat):List z186→List z186
 |[]=>[]
 |x::l=>if z3fe N (stepN N x.2.1 c)=true then zbb N c l else z44a N c x::zbb N c l
def accX(N:Nt)(c:Nat):Option Nat→z186→Option Nat
 |some f,_=>some f
 |none,x=>if z278 N (stepN N x.2.1 c)=true then some x.2.2 else none
def z36c(N:Nt)(c:Nat)(a:Option Nat)(l:List z186):Option Nat:=l.foldl (accX N c) a
theorem z445{N:Nt}{c:Nat}{a:Option Nat}{x:z186}(h:z278 N (stepN N x.2.1 c)=false):accX N c a x=a:=by
 cases a with
 |some f=>rfl
 |none=>
  show (if z278 N (stepN N x.2.1 c)=true then some x.2.2 else none)=none;rw[if_neg (by rw[h];decide)]
theorem accX_done{N:Nt}{c:Nat}{x:z186}(h:z278 N (stepN N x.2.1 c)=true):accX N c none x=some x.2.2:=by
 show (if z278 N (stepN N x.2.1 c)=true then some x.2.2 else none)=_;rw[if_pos h]
def z45e(a:Option Nat):Int:=match a with
 |some f=>(f:Int)
 |none=>0
def InLoop(h0 H:AHeap)(nb c i:Nat)(S:List Nat)(kept todo:List z186)(G:List AV):Prop:=kept.length≤i∧G.length=2*(i - kept.length)∧RowH H c z208 (z76 kept++(G++z76 todo))∧RunsAt H nb kept∧RunsAt H nb todo∧((kept++todo).map (·.1)).Nodup∧(∀x∈kept++todo,x.1∈S)∧Tch (c::S) h0 H
section
variable {h0 H H1 H2:AHeap}{nb c i byte:Nat}{S:List Nat}{kept todo:List z186}{G:List AV}{x:z186}{N:Nt}
theorem InLoop.apart(k:InLoop h0 H nb c i S kept (x::todo) G):(∀y∈kept,y.1≠x.1)∧∀y∈todo,y.1≠x.1:=by
 have h:=k.2.2.2.2.2.1;rw[List.map_append,List.nodup_append,List.map_cons,List.nodup_cons] at h;obtain⟨_,⟨h2,_⟩,h3⟩:=h;exact⟨fun y hy e=>h3 y.1 (List.mem_map_of_mem hy) x.1 List.mem_cons_self e,fun y hy e=>h2 (e▸List.mem_map_of_mem hy)⟩
theorem InLoop.skip(k:InLoop h0 H nb c i S kept (x::todo) G)(hcS:c ∉ S)(hc:c<h0.next)(t:Tch [x.1] H H1):InLoop h0 H1 nb c (i+1) S kept todo (G++z28b x):=by
 obtain⟨a1,a2⟩:=k.apart;obtain⟨k1,k2,k3,k4,k5,k6,k7,k8⟩:=k;have hxS:x.1∈S:=k7 x (by simp);have hcx:c≠x.1:=fun e=>hcS (e▸hxS);refine⟨by omega,?_,?_,k4.tch t (fun y hy=>by simpa using a1 y hy),?_,?_,fun y hy=>k7 y ?_,?_⟩
 ·rw [List.length_append, k2]
  show _+2=_;omega
 ·have := k3.tch t (Nat.lt_of_lt_of_le hc k8.1) (by simpa using hcx)
  rw[z76, ←List.append_assoc G] at this;exact this
 ·exact RunsAt.tch (fun y hy=>k5 y (List.mem_cons_of_mem _ hy)) t (fun y hy=>by simpa using a2 y hy)
 ·rw [List.map_append, List.map_cons] at k6
  rw[List.map_append];exact k6.sublist (List.Sublist.append_left (List.sublist_cons_self _ _) _)
 ·rcases List.mem_append.1 hy with hy | hy
  ·exact List.mem_append_left _ hy
  ·exact List.mem_append_right _ (List.mem_cons_of_mem _ hy)
 ·exact k8.trans (t.mono fun b hb=>.inl (by rw[List.mem_singleton.1 hb];exact List.mem_cons_of_mem _ hxS))
theorem laid_way{T:List AV}(hG:G.length=2*(i - kept.length)):laid (z76 kept++(G++(z28b x++T))) (2*kept.length) (z28b x)=z76 (kept++[x])++((G++z28b x).drop 2++T):=by
 have hw:(z28b x).length=2:=rfl;have hl:=z83 kept;unfold laid;rw[List.take_left' hl,z133,hw, ←hl,List.drop_append,List.drop_of_length_le (Nat.le_add_right _ _),Nat.add_sub_cancel_left,List.nil_append, ←List.append_assoc G,List.drop_append_of_le_length (by rw[List.length_append,hw];omega)];show _=z76 kept++(z28b x++[])++_;rw[List.append_nil]
theorem InLoop.keep(k:InLoop h0 H nb c i S kept (x::todo) G)(hcS:c ∉ S)(hc:c<h0.next)(t:Tch [x.1] H H1)(kr:RowH H1 x.1 z47b (z44d nb (stepN N x.2.1 byte)))(hs:(stepN N x.2.1 byte).2 <18446744073709551616)(k2:RowH H2 c z208 (laid (z76 kept++((G++z28b x)++z76 todo)) (2*kept.length) (z28b x)))(t2:Tch [c] H1 H2):
  InLoop h0 H2 nb c (i+1) S (kept++[z44a N byte x]) todo ((G++z28b x).drop 2):=by
 have hxS:x.1∈S:=k.2.2.2.2.2.2.1 x (by simp);have hcx:c≠x.1:=fun e=>hcS (e▸hxS);have hlt:=(k.2.2.2.2.1 x List.mem_cons_self).2.1;have hxl:x.1<H1.next:=Nat.lt_of_lt_of_le hlt t.1;have k6:=k.2.2.2.2.2.1;have k7:=k.2.2.2.2.2.2.1;have hG:=k.2.1;have j:=k.skip hcS hc t;obtain⟨j1,j2,j3,j4,j5,j6,j7,j8⟩:=j;have hk:=k.1;have cne:∀y∈kept++todo,y.1 ∉ [c]:=fun y hy e=>hcS (List.mem_singleton.1 e▸j7 y hy);refine⟨by rw[List.length_append,List.length_singleton];omega,?_,?_,fun y hy=>?_,j5.tch t2 (fun y hy=>cne y (List.mem_append_right _ hy)),?_,fun y hy=>?_,j8.trans (t2.mono fun b hb=>.inl (by rw[List.mem_singleton.1 hb];exact List.mem_cons_self))⟩
 ·rw [List.length_drop, List.length_append, hG, List.length_append, List.length_singleton]
  show _+2 - 2=_;omega
 ·rw [List.append_assoc G, laid_way (i := i) hG, z133] at k2
  rw[z133];exact k2
 ·rcases List.mem_append.1 hy with hy | hy
  ·exact j4.tch t2 (fun y hy=>cne y (List.mem_append_left _ hy)) y hy
  ·rw [List.mem_singleton.1 hy]
   exact⟨kr.tch t2 hxl (by simpa using hcx.symm),Nat.lt_of_lt_of_le hxl t2.1,hs⟩
 ·rw [List.append_assoc, List.map_append] at *
  exact k6
 ·refine (?_ : ∀ y ∈ kept ++ [z44a N byte x] ++ todo, y.1 ∈ S) y hy
  intro y hy
  rcases List.mem_append.1 hy with hy|hy
  ·rcases List.mem_append.1 hy with hy | hy
   ·exact k7 y (List.mem_append_left _ hy)
   ·rw [List.mem_singleton.1 hy]
    exact hxS
  ·exact k7 y (List.mem_append_right _ (List.mem_cons_of_mem _ hy))
end
theorem y14{α:Type}{a:α}{K:α→R}{Q:ARes→AHeap→Prop}(hk:∀x,x=a→Wp (K x) Q):Wp (Abs.lett a K) Q:=hk a rfl
theorem z46c{N:Nt}{st:Bool×Nat}(h:z3fe N st=true):z278 N st=false:=by
 cases hd:z278 N st with
 |false=>rfl
 |true=>
  rw[done_live hd] at h;cases h
theorem z1dc{b m i:Nat}(h:i<m):z1a6 2 (.sl b 0 m 2) (i:Int)=some (.ptr b (0+i*2)):=by
 have e:Nat.blt i m=true:=by simpa using h
 show (match Nat.blt i m with|true=>some (AV.ptr b (0+i*2))|false=>none)=_;rw[e]
theorem z22c{h:AHeap}{b:Nat}{e:TypeId}{l:List AV}(hT:HasTz h)(k:RowH h b e l):0≠b:=by
 intro hb;subst hb;obtain⟨t,h1,_⟩:=k;rw[hT.1] at h1;cases h1
section
variable {N:Nt}{n d nb ab o c L byte:Nat}{h0:AHeap}{S:List Nat}{cells:List AV}{Q:ARes→AHeap→Prop}{k30:Int→Bool→Int→AHeap→R}
theorem z441(hT:HasTz h0)(hN:NtOk N)(hn:18446744073709551616<n)(hb:byte<256)(hL:L<1000000)(kn:RowH h0 nb TNet (netC N))(hnb:nb<h0.next)(hnS:nb ∉ S)(hnc:nb≠c)(ka:RowH h0 ab z257 cells)(hab:ab<h0.next)(haS:ab ∉ S)(hac:ab≠c)(hv:cells[o+1]? =some (.sl c 0 L 2))(hcS:c ∉ S)(hc:c<h0.next)(hTS:0 ∉ c::S):
  ∀(todo:List z186) (i fu:Nat) (kept:List z186) (G:List AV) (a:Option Nat) (H:AHeap),todo.length<fu→i+todo.length=L→(∀x∈todo,x.2.2<1000000000000)→InLoop h0 H nb c i S kept todo G→
   (∀(H':AHeap) (G':List AV),InLoop h0 H' nb c L S (kept++zbb N byte todo) [] G'→Wp (k30 (z45e (z36c N byte a todo)) (z36c N byte a todo).isSome ((kept++zbb N byte todo).length:Int) H') Q)→
   Wp (z8e (world n (d+3)) (.ptr ab o) (byte:Int) (.sl c 0 L 2) (L:Int) k30 fu (z45e a) a.isSome (kept.length:Int) (i:Int) H) Q
 |_,_,0,_,_,_,_,hf,_,_,_,_=>by omega
 |[],i,fu+1,kept,G,a,H,hf,hi,hx,k,hk=>by
  rw[z101];unfold za4;have hiL:i=L:=hi;subst hiL
  ((with_reducible refine Wp.lett ?_))
  refine y7 (by rw[decide_eq_false_iff_not];omega) ?_;have:=hk H G (by rw[zbb,List.append_nil];exact k);rw[zbb,List.append_nil] at this;exact this
 |x::todo,i,fu+1,kept,G,a,H,hf,hi,hx,k,hk=>by
  rw[List.length_cons] at hf hi;have hiL:i<L:=by omega
  have el:(i:Int)+1=((i+1:Nat):Int):=by omega
  obtain⟨k1,k2,k3,k4,k5,k6,k7,k8⟩:=id k;have hxS:x.1∈S:=k7 x (by simp);obtain⟨hx1,hx2,hx3⟩:=k5 x List.mem_cons_self;have hfr:=hx x List.mem_cons_self;have w1:=z1dc (b:=c) hiL;have hcH:c<H.next:=Nat.lt_of_lt_of_le hc k8.1
  have w2:z18 H 2 (.ptr c (0+i*2))=some (z28b x):=by
   have:=k3.ld (o:=0+i*2) (n:=2) (by rw[List.length_append,List.length_append,z83,z83,List.length_cons];omega);rw[this]
   congr 1
   rw[←List.append_assoc,z76,List.drop_left' (by rw[List.length_append,z83];omega)];exact List.take_left' rfl
  have knH:=kn.tch k8 hnb (by simp[hnS,hnc]);have kaH:=ka.tch k8 hab (by simp[haS,hac]);have hTH:=hT.tch k8 hTS;have hne:x.1≠nb:=fun e=>hnS (e▸hxS);have hxc:x.1≠c:=fun e=>hcS (e▸hxS);have hxa:x.1≠ab:=fun e=>haS (e▸hxS);rw[z101];unfold za4
  ((with_reducible refine Wp.lett ?_))
  refine y8 (by rw[decide_eq_true_eq];omega) ?_;refine y14 fun k46 ek46=>?_;have M0:=Mem.nil [] H;refine Wp.obind w1 ?_;refine Wp.obind w2 ?_;refine y9 M0 fun h55 M1=>?_;rw[z10];refine y11 M1 rfl rfl rfl fun h57 M2=>?_;have t57:=M2.tch;have p0:=M2.at0.1;have p1:=M2.at0.2.1;refine Wp.obind (y5 p0 (show (z28b x)[0]? =some (.ptr x.1 0) from rfl)) ?_;have hx57:=hx1.tch t57 hx2 (by simp);obtain⟨h61,e61,kr,t61⟩:=step_r (n:=n) (d:=d) (hTH.tch t57 (by simp)) hN hx3 hn hne hb hx57 (knH.tch t57 (Nat.lt_of_lt_of_le hnb k8.1) (by simp)) (Nat.lt_of_lt_of_le (Nat.lt_of_lt_of_le hnb k8.1) t57.1);refine Wp.callN e61 ?_;have hpx:H.next≠x.1:=by omega
  have q0:=p0.tch t61 p1 (by simpa using hpx);have tA:Tch [x.1] H h61:=(t57.mono (fun b hb=>nomatch hb)).trans t61;have kn61:=(knH.tch tA (Nat.lt_of_lt_of_le hnb k8.1) (by simpa using hne.symm));have hsm:=z449 hN x.2.1 byte;refine Wp.obind (y5 q0 (show (z28b x)[0]? =some (.ptr x.1 0) from rfl)) ?_;refine Wp.callN (dead_w (n:=n) (d:=d+1) kr kn61) ?_;refine Wp.obind (z6 _) ?_;have nx:=fun kept G a H'=>z441 hT hN hn hb hL kn hnb hnS hnc ka hab haS hac hv hcS hc hTS todo (i+1) fu kept G a H' (by omega) (by omega) (fun y hy=>hx y (List.mem_cons_of_mem _ hy));cases hd:z3fe N (stepN N x.2.1 byte) with
  |true=>
   refine y8 rfl ?_;rw[ek46]
   repeat(((with_reducible refine yf ?_ ?_ ?_);omega;omega))
   rw[el];have hdn:=z46c hd;refine nx kept _ a h61 (k.skip hcS hc tA) fun H' G' k'=>?_;have:=hk H' G';rw[zbb,if_pos hd,show z36c N byte a (x::todo)=z36c N byte a todo from congrArg (fun z=>z36c N byte z todo) (z445 hdn)] at this;exact this k'
  |false=>
   refine y7 rfl ?_;refine Wp.obind (y5 q0 (show (z28b x)[0]? =some (.ptr x.1 0) from rfl)) ?_;refine Wp.callN (done_w (n:=n) (d:=d+1) hN hsm kr kn61) ?_;refine Wp.obind (z6 _) ?_;have kc61:=k3.tch tA hcH (by simpa using hxc.symm);have ka61:=kaH.tch tA (Nat.lt_of_lt_of_le hab k8.1) (by simpa using hxa.symm);have cv:=y5 ka61 hv;have w3:z1a6 2 (.sl c 0 L 2) (kept.length:Int)=some (.ptr c (0+kept.length*2)):=z1dc (by omega);have w4:z18 h61 2 (.ptr H.next 0)=some (z28b x):=RowH.ldAll q0 rfl;have w5:Abs.avInt .i64 (.int .i64 (x.2.2:Int))=some (x.2.2:Int):=z5 _ _;have w6:=y5 q0 (show (z28b x)[1]? =some (.int .i64 (x.2.2:Int)) from rfl);have elk:(kept.length:Int)+1=((kept.length+1:Nat):Int):=by omega
   have fin:∀(a':Option Nat) (h88:AHeap),z36c N byte a (x::todo)=z36c N byte a' todo→RowH h88 c z208 (laid (z76 kept++(G++z76 (x::todo))) (0+kept.length*2) (z28b x))→Tch [c] h61 h88→Wp (z8e (world n (d+3)) (.ptr ab o) (byte:Int) (.sl c 0 L 2) (L:Int) k30 fu (z45e a') a'.isSome ((kept.length+1:Nat):Int) ((i+1:Nat):Int) h88) Q:=by
    intro a' h88 ha k88 t88
    have kk:=k.keep (N:=N) (byte:=byte) hcS hc tA kr hsm (by
     rw[show 0+kept.length*2=2*kept.length by omega,z76, ←List.append_assoc G] at k88;exact k88) t88
    have:=nx _ _ a' h88 kk fun H' G' k'=>(by
     have:=hk H' G';rw[zbb,if_neg (by rw[hd];decide),ha] at this;rw[List.append_assoc] at k' ⊢;exact this k')
    rw[List.length_append] at this;exact this
   have st:∀(a':Option Nat),z36c N byte a (x::todo)=z36c N byte a' todo→Wp (Abs.obind (z17 h61 2 (z28b x) (.ptr c (0+kept.length*2))) fun h_88=>Abs.lett (IntKind.i64.wrap ((kept.length:Int)+1)) fun (t60:Int)=>k46 (z45e a') a'.isSome t60 h_88) Q:=by
    intro a' ha;refine Wp.stN kc61 rfl (by rw[List.length_append,List.length_append,z83,z83,List.length_cons];omega) rfl fun h88 k88 t88 n88=>?_;rw[ek46]
    repeat(((with_reducible refine yf ?_ ?_ ?_);omega;omega))
    rw[el,elk];exact fin a' h88 ha k88 t88
   cases hdo:z278 N (stepN N x.2.1 byte) with
   |false=>
    repeat(with_reducible first|(first|refine yc (fun _ _=>?_)|refine y55 (fun _ _=>?_))|(apply Wp.obind;first|exact z12 _ _|exact cv|exact w4|exact w3|exact z8 _ _ _)|(refine y7 ?_ ?_;rfl)|(first|refine ye (by assumption) ?_|refine Wp.go2 (by assumption) ?_))
    exact st a (congrArg (fun z=>z36c N byte z todo) (z445 hdo))
   |true=>
    cases a with
    |some f=>
     have b1:(!(some f).isSome)=false:=rfl
     repeat(with_reducible first|(first|refine yc (fun _ _=>?_)|refine y55 (fun _ _=>?_))|refine Wp.lett ?_|(apply Wp.obind;first|exact z12 _ _|exact cv|exact w4|exact w3|exact z8 _ _ _)|(refine y8 ?_ ?_;rfl)|(refine y7 ?_ ?_;assumption)|(first|refine ye (by assumption) ?_|refine Wp.go2 (by assumption) ?_))
     exact st (some f) rfl
    |none=>
     have b1:(!(none:Option Nat).isSome)=true:=rfl
     repeat(with_reducible first|(first|refine yc (fun _ _=>?_)|refine y55 (fun _ _=>?_))|refine Wp.lett ?_|(apply Wp.obind;first|exact w6|exact z12 _ _|exact cv|exact w4|exact w3|exact z5 _ _|exact z8 _ _ _)|(refine y8 ?_ ?_;first|rfl|assumption)|(first|refine ye (by assumption) ?_|refine Wp.go2 (by assumption) ?_))
     exact st (some x.2.2) (congrArg (fun z=>z36c N byte z todo) (accX_done hdo))
end
end Go.Proofs.YtpdepoeanhibiaaDoor
