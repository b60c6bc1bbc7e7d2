/- What nfaRuns_proved stands on, part 8 of 11. -/
import Derived.Test.YtakhljnkmbpmpaaDoorCr7
namespace Go.Proofs.YtakhljnkmbpmpaaDoor
open Go.RowKit Abs
abbrev TRun:Nat:=69
def stepN(N:Nt)(st:Bool×Nat)(c:Nat):Bool×Nat:=(true,(if st.1=true then N.behind st.2 else N.first)&&&N.ta.getD c 0)
def z277(N:Nt)(st:Bool×Nat):Bool:=if st.1=true then decide (st.2&&&N.last≠0) else N.empty
def z22a(N:Nt)(st:Bool×Nat):Bool:=if st.1=true then decide (st.2=0) else !N.empty&&decide (N.first=0)
noncomputable def runC(nb:Nat)(st:Bool×Nat):List AV:=[.ptr nb 0,.bool st.1,.int .u64 (st.2:Int)]
def z1ac(N:Nt)(st:Bool×Nat)(s:z11):Bool×Nat:=s.foldl (fun st c=>stepN N st c.toNat) st
def z19f(N:Nt)(s:z11):Bool:=z277 N (z1ac N (false,0) s)
theorem behF_zero(fo:List Nat):∀(f acc:Nat),behF fo f 0 acc=acc
 |0,_=>rfl
 |_+1,_=>rfl
theorem beh_zero(N:Nt):N.behind 0=0:=behF_zero _ _ _
theorem z3a8(N:Nt)(c:Nat):stepN N (true,0) c=(true,0):=by
 unfold stepN;rw[if_pos rfl,beh_zero,Nat.zero_and]
theorem z442(N:Nt):∀s:z11,z1ac N (true,0) s=(true,0)
 |[]=>rfl
 |c::s=>by
  show z1ac N (stepN N (true,0) c.toNat) s=_;rw[z3a8];exact z442 N s
theorem dead_step{N:Nt}{st:Bool×Nat}(h:z22a N st=true)(c:Nat):z22a N (stepN N st c)=true:=by
 obtain⟨b,m⟩:=st
 cases b with
 |true=>
  have:m=0:=of_decide_eq_true h;subst this;rw[z3a8];rfl
 |false=>
  have h2:(!N.empty&&decide (N.first=0))=true:=h;rw[Bool.and_eq_true,decide_eq_true_eq] at h2;show decide ((N.first&&&_)=0)=true;rw[h2.2,Nat.zero_and];rfl
theorem done_live{N:Nt}{st:Bool×Nat}(h:z277 N st=true):z22a N st=false:=by
 obtain⟨b,m⟩:=st
 cases b with
 |true=>
  have h2:m&&&N.last≠0:=of_decide_eq_true h;show decide (m=0)=false;rw[decide_eq_false_iff_not];intro e;rw[e,Nat.zero_and] at h2;exact h2 rfl
 |false=>
  have h2:N.empty=true:=h;show (!N.empty&&_)=false;rw[h2];rfl
theorem z194{N:Nt}(k:NtOk N)(st:Bool×Nat)(c:Nat):(stepN N st c).2 <18446744073709551616:=by
 show (if st.1=true then N.behind st.2 else N.first)&&&_<_;refine zaa ?_
 split
 ·exact N.behind_small k _
 ·exact k.f
section
variable {N:Nt}{n d nb rb:Nat}{h:AHeap}{Q:ARes→AHeap→Prop}{st:Bool×Nat}
set_option maxRecDepth 100000 in
theorem eqRun(b o:Nat)(h:AHeap):z109 Tryd.prog h .eql 44 true (some (.ptr b o)) (some AV.nilp)=some (.val (.bool false),h):=by kernel_rfl
set_option maxRecDepth 100000 in
theorem eqNet(b o:Nat)(h:AHeap):z109 Tryd.prog h .eql 25 true (some (.ptr b o)) (some AV.nilp)=some (.val (.bool false),h):=by kernel_rfl
set_option maxRecDepth 100000 in
theorem bldRun(b o:Nat):z27a Tryd.prog TRun [(0,.ptr b o)]=some [.ptr b o,.bool false,.int .u64 0]:=by kernel_rfl
theorem none_w(kr:RowH h rb TRun (runC nb st)):world n (d+1) 33 [.ptr rb 0] h=some (.ret (.bool false),h):=by
 apply Wp.eq;rw[z301];unfold z102;have c1:z9 h (.ptr rb (0+0))=some (.ptr nb 0):=y10 kr rfl
 repeat(with_reducible first|refine y5 (fun _ _=>?_)|(apply Wp.obind;first|exact c1|exact z6 _|exact z3e _ _|exact ze _ _ _)|(refine y7 ?_ ?_;rfl)|(apply Wp.outK;first|exact eqRun _ _ _|exact eqNet _ _ _)|refine yd (by assumption) ?_)
 exact Wp.ret ⟨rfl,rfl⟩
theorem done_w(hN:NtOk N)(hs:st.2<18446744073709551616)(kr:RowH h rb TRun (runC nb st))(kn:RowH h nb TNet (netC N)):world n (d+2) 18 [.ptr rb 0] h=some (.ret (.bool (z277 N st)),h):=by
 apply Wp.eq;rw[z303];unfold z104;have e0:=none_w (n:=n) (d:=d) kr;have c1:z9 h (.ptr rb (0+0))=some (.ptr nb 0):=y10 kr rfl;have c2:z9 h (.ptr rb (0+1))=some (.bool st.1):=y10 kr rfl;have c3:z9 h (.ptr rb (0+2))=some (.int .u64 (st.2:Int)):=y10 kr rfl;have c4:z9 h (.ptr nb (0+0))=some (.bool N.empty):=y10 kn rfl;have c5:z9 h (.ptr nb (0+2))=some (.int .u64 (N.last:Int)):=y10 kn rfl;have e1:=zfa hs hN.l;unfold z277
 repeat(with_reducible first|refine Wp.lett ?_|(apply Wp.obind;first|exact c2|exact z6 _|exact z3e _ _|exact ze _ _ _)|(refine y7 ?_ ?_;rfl)|(apply Wp.callN;exact e0))
 cases hb:st.1 with
 |false=>
  repeat(with_reducible first|(apply Wp.obind;first|exact c1|exact c4|exact z6 _|exact z3e _ _|exact ze _ _ _)|(refine y8 ?_ ?_;exact Bool.not_false))
  exact Wp.ret ⟨rfl,rfl⟩
 |true=>
  repeat(with_reducible first|refine Wp.lett ?_|(apply Wp.obind;first|exact c1|exact c3|exact c5|exact z5 _ _|exact z3e _ _|exact ze _ _ _)|(refine y7 ?_ ?_;exact Bool.not_true))
  rw[e1];refine Wp.ret ⟨?_,rfl⟩
  by_cases hz:st.2&&&N.last=0
  ·rw [hz]
   rfl
  ·rw[if_pos rfl,decide_eq_true hz,show (((st.2&&&N.last:Nat):Int) != 0)=true from zab (by omega)]
theorem z470(kr:RowH h rb TRun (runC nb st))(kn:RowH h nb TNet (netC N)):world n (d+2) 19 [.ptr rb 0] h=some (.ret (.bool (z22a N st)),h):=by
 apply Wp.eq;rw[z304];unfold z105;have e0:=none_w (n:=n) (d:=d) kr;have c1:z9 h (.ptr rb (0+0))=some (.ptr nb 0):=y10 kr rfl;have c2:z9 h (.ptr rb (0+1))=some (.bool st.1):=y10 kr rfl;have c3:z9 h (.ptr rb (0+2))=some (.int .u64 (st.2:Int)):=y10 kr rfl;have c4:z9 h (.ptr nb (0+0))=some (.bool N.empty):=y10 kn rfl;have c5:z9 h (.ptr nb (0+1))=some (.int .u64 (N.first:Int)):=y10 kn rfl
 have hz:∀x:Nat,(((x:Nat):Int) == 0)=decide (x=0):=fun x=>by
  by_cases h0:x=0
  ·rw [h0]
   rfl
  ·rw [decide_eq_false h0]
   exact z2e (by omega)
 unfold z22a
 repeat(with_reducible first|refine Wp.lett ?_|(apply Wp.obind;first|exact c2|exact z6 _|exact z3e _ _|exact ze _ _ _)|(refine y7 ?_ ?_;rfl)|(apply Wp.callN;exact e0))
 cases hb:st.1 with
 |false=>
  cases he:N.empty with
  |true=>
   rw[he] at c4
   repeat(with_reducible first|refine y5 (fun _ _=>?_)|refine Wp.lett ?_|(apply Wp.obind;first|exact c1|exact c4|exact z6 _|exact z3e _ _|exact ze _ _ _)|(refine y8 ?_ ?_;exact Bool.not_false)|(refine y7 ?_ ?_;exact Bool.not_true)|refine yd (by assumption) ?_)
   exact Wp.ret ⟨rfl,rfl⟩
  |false=>
   rw[he] at c4
   repeat(with_reducible first|refine y5 (fun _ _=>?_)|refine Wp.lett ?_|(apply Wp.obind;first|exact c1|exact c4|exact c5|exact z5 _ _|exact z6 _|exact z3e _ _|exact ze _ _ _)|(refine y8 ?_ ?_;exact Bool.not_false)|refine yd (by assumption) ?_)
   rw[hz];exact Wp.ret ⟨rfl,rfl⟩
 |true=>
  repeat(with_reducible first|refine Wp.lett ?_|(apply Wp.obind;first|exact c3|exact z5 _ _|exact z3e _ _|exact ze _ _ _)|(refine y7 ?_ ?_;exact Bool.not_true))
  rw[hz];exact Wp.ret ⟨rfl,rfl⟩
theorem step_r(hT:HasTz h)(hN:NtOk N)(hs:st.2<18446744073709551616)(hn:18446744073709551616<n)(hne:rb≠nb){c:Nat}(hc:c<256)(kr:RowH h rb TRun (runC nb st))(kn:RowH h nb TNet (netC N))(hnb:nb<h.next):∃h',world n (d+3) 21 [.ptr rb 0,.int .u8 (c:Int)] h=some (.ret (.tup []),h')∧RowH h' rb TRun (runC nb (stepN N st c))∧Tch [rb] h h':=by
 apply Wp.ex;rw[z302];unfold z103;have e0:=none_w (n:=n) (d:=d+1) kr;have c1:z9 h (.ptr rb (0+0))=some (.ptr nb 0):=y10 kr rfl;have c2:z9 h (.ptr rb (0+1))=some (.bool st.1):=y10 kr rfl;have c3:z9 h (.ptr rb (0+2))=some (.int .u64 (st.2:Int)):=y10 kr rfl;have c5:z9 h (.ptr nb (0+1))=some (.int .u64 (N.first:Int)):=y10 kn rfl;have e1:=beh_w (n:=n) (d:=d) hT hN kn hs hn;have e3:=zc7 (b:=nb) (o:=0+67) hc
 have fin:∀(m:Nat),m<18446744073709551616→(stepN N st c).2=m&&&N.ta.getD c 0→Wp (obind (z16 h 1 [.bool true] (.ptr rb (0+1))) fun h_25=>
   obind (zf1 (.ptr rb 0)) fun t33=>obind (z58 0 t33) fun t34=>obind (z9 h_25 t34) fun v35=>obind (zf1 v35) fun t37=>obind (z58 67 t37) fun t38=>
   obind (z20b 256 1 t38 (c:Int)) fun t39=>obind (z9 h_25 t39) fun v40=>obind (z2c .u64 v40) fun t40=>lett (z393 .u64 (m:Int) t40) fun (t41:Int)=>
   obind (zf1 (.ptr rb 0)) fun t42=>obind (z58 2 t42) fun t43=>obind (z16 h_25 1 [.int .u64 t41] t43) fun h_38=>some (.ret (.tup []),h_38))
   fun r h'=>r=.ret (.tup [])∧RowH h' rb TRun (runC nb (stepN N st c))∧Tch [rb] h h':=by
  intro m hm he;refine Wp.st1 kr (by show 1<3;decide) rfl fun h1 k1 t1 _=>?_;have kn1:=kn.tch t1 hnb (by simpa using fun e=>hne e.symm);have d1:z9 h1 (.ptr rb (0+0))=some (.ptr nb 0):=y10 k1 rfl;have d2:z9 h1 (.ptr nb (0+67+c))=some (.int .u64 (N.ta.getD c 0:Int)):=y10 kn1 (by rw[Nat.zero_add,net_ta hN hc])
  repeat(with_reducible first|refine Wp.lett ?_|(apply Wp.obind;first|exact d1|exact d2|exact e3|exact z5 _ _|exact z3e _ _|exact ze _ _ _))
  rw[zfa hm (zc3 hN.ts c), ←he];refine Wp.st1 k1 (by show 2<3;decide) rfl fun h2 k2 t2 _=>?_;exact Wp.ret ⟨rfl,k2,t1.trans t2⟩
 repeat(with_reducible first|refine y5 (fun _ _=>?_)|(apply Wp.obind;first|exact c1|exact c2|exact c5|exact z5 _ _|exact z6 _|exact z3e _ _|exact ze _ _ _)|(refine y7 ?_ ?_;rfl)|(apply Wp.callN;exact e0))
 cases hb:st.1 with
 |true=>
  repeat(with_reducible first|(apply Wp.obind;first|exact c1|exact c3|exact z5 _ _|exact z3e _ _|exact ze _ _ _)|(refine y8 ?_ ?_;rfl)|(apply Wp.callN;exact e1)|refine yd (by assumption) ?_)
  exact fin (N.behind st.2) (N.behind_small hN _) (by unfold stepN;rw[if_pos hb])
 |false=>
  repeat(with_reducible first|(apply Wp.obind;first|exact z3e _ _|exact ze _ _ _)|(refine y7 ?_ ?_;rfl)|refine yd (by assumption) ?_)
  exact fin N.first hN.f (by unfold stepN;rw[if_neg (by rw[hb];decide)])
end
section
variable {N:Nt}{n d nb rb:Nat}{h h0:AHeap}{Q:ARes→AHeap→Prop}{st:Bool×Nat}{S:List Nat}{rs:List z9e}
theorem begin_m(M:Abs.Mem S h0 h rs):∃h',world n (d+1) 17 [.ptr nb 0] h=some (.ret (.ptr h.next 0),h')∧Abs.Mem S h0 h' ((h.next,TRun,runC nb (false,0))::rs):=by
 apply Wp.ex;rw[z2ad];unfold ze0;have Mx:=M
 repeat(first|(with_reducible apply Wp.obind;exact z6 _)|((with_reducible apply y16 Mx);(rfl);clear Mx;intro _ Mx)|(with_reducible first|(apply Wp.obind;exact bldRun _ _)|(refine y7 ?_ ?_;rfl)|(apply Wp.outK;exact eqNet _ _ _)))
 exact Wp.ret ⟨rfl,Mx⟩
theorem dead_false{st:Bool×Nat}(hb:st.1=true)(hd:z22a N st=true)(s:z11):z277 N (z1ac N st s)=false:=by
 obtain⟨b,m⟩:=st;have:b=true:=hb;subst this;have:m=0:=of_decide_eq_true hd;subst this;rw[z442];show decide (0&&&N.last≠0)=false;rw[Nat.zero_and];rfl
theorem run_cons{s:z11}{i:Nat}(hi:i<s.length)(st:Bool×Nat):z1ac N st (s.drop i)=z1ac N (stepN N st (s[i]).toNat) (s.drop (i+1)):=by
 rw[List.drop_eq_getElem_cons hi];rfl
theorem z38a{s:z11}{i:Nat}(hi:i<s.length):(s[i]).toNat <256:=(s[i]).toNat_lt
theorem z327{s:z11}{k17:AHeap→R}{h4:AHeap}(hT:HasTz h0)(hN:NtOk N)(hn:18446744073709551616<n)(hl:s.length<1000000000)(kn:RowH h0 nb TNet (netC N))(hnb:nb<h0.next)(hk:∀(st:Bool×Nat) (H:AHeap),st.2<18446744073709551616→Abs.Mem [] h0 H [(h4.next,TRun,runC nb st)]→z277 N st=z19f N s→Wp (k17 H) Q)(hq:∀H,Tch [] h0 H→z19f N s=false→Q (.ret (.bool false)) H):
  ∀(m f i:Nat) (st:Bool×Nat) (H:AHeap),m<f→i+m=s.length→st.2<18446744073709551616→z277 N (z1ac N st (s.drop i))=z19f N s→Abs.Mem [] h0 H [(h4.next,TRun,runC nb st)]→Wp (zbb (world n (d+3)) s h4 k17 f (i:Int) H) Q
 |_,0,_,_,_,hf,_,_,_,_=>by omega
 |0,f+1,i,st,H,hf,hm,hs,hr,M=>by
  have ll:=z1b s;rw[z11b];unfold za6
  repeat(first|(with_reducible refine Wp.lett ?_)|((with_reducible refine y7 ?_ ?_;apply decide_eq_false);omega))
  refine hk st H hs M ?_;rw[List.drop_of_length_le (by omega)] at hr;exact hr
 |m+1,f+1,i,st,H,hf,hm,hs,hr,M=>by
  have ll:=z1b s;have hi:i<s.length:=by omega
  rw[z11b];unfold za6;have hx:=z30 hi;have kn1:=kn.tch M.tch hnb (by simp);have hn1:=Nat.lt_of_lt_of_le hnb M.tch.1
  have hne:h4.next≠nb:=by
   have:=M.at0.2.2.resolve_left (by simp);omega
  obtain⟨h1,e1,k1,t1⟩:=step_r (n:=n) (d:=d) (hT.tch M.tch (by simp)) hN hs hn hne (z38a hi) M.at0.1 kn1 hn1;have M1:=y1b (xs:=[]) M t1 k1;have kn2:=kn1.tch t1 hn1 (by simpa using fun e=>hne e.symm);have e2:=z470 (n:=n) (d:=d+1) k1 kn2;have el:(i:Int)+1=((i+1:Nat):Int):=by omega
  rw[run_cons hi] at hr
  ((with_reducible refine Wp.lett ?_))
  refine y8 (decide_eq_true (by omega)) ?_;refine Wp.obind hx ?_;rw[z8];refine Wp.callN e1 ?_;refine Wp.callN e2 ?_;refine Wp.obind (z6 _) ?_;cases hd:z22a N (stepN N st (s[i]).toNat) with
  |true=>
   (((with_reducible refine y8 ?_ ?_);(with_reducible rfl)))
   refine Wp.ret (hq _ M1.tch ?_);rw[←hr];exact dead_false rfl hd _
  |false=>
   repeat(first|((with_reducible refine yf ?_ ?_ ?_);omega;omega)|(with_reducible refine y7 ?_ ?_;rfl))
   rw[el];exact z327 hT hN hn hl kn hnb hk hq m f (i+1) _ h1 (by omega) (by omega) (z194 hN _ _) hr M1
theorem match_r{s:z11}(hT:HasTz h)(hN:NtOk N)(hn:18446744073709551616<n)(hl:s.length<1000000000)(kn:RowH h nb TNet (netC N))(hnb:nb<h.next):∃h',world n (d+4) 14 [.ptr nb 0,z12 s] h=some (.ret (.bool (z19f N s)),h')∧Tch [] h h':=by
 apply Wp.ex;rw[z2ac];unfold zdf;have Mx:=Mem.nil [] h
 repeat(first|(with_reducible apply Wp.obind;exact z6 _)|((with_reducible apply y11 Mx);rfl;rfl;(rfl);clear Mx;intro _ Mx)|((with_reducible apply yc Mx);clear Mx;intro _ Mx)|(with_reducible first|refine y12 (fun _ _=>?_)|(apply Wp.obind;exact bldRun _ _)|(refine y7 ?_ ?_;rfl)|(apply Wp.outK;exact eqNet _ _ _))|rw[z8])
 rename_i k17 ek17;refine z327 (h0:=h) hT hN hn hl kn hnb (fun st H hs M hd=>?_) (fun H t e=>⟨by rw[e],t⟩) s.length n 0 (false,0) _ (by omega) (by omega) (show 0<_ by decide) (by rw[List.drop_zero];rfl) Mx;rw[ek17];have e2:=done_w (n:=n) (d:=d+1) hN hs M.at0.1 (kn.tch M.tch hnb (by simp));refine Wp.callN e2 ?_
 (((with_reducible apply Wp.obind);(with_reducible exact z6 _)))
 exact Wp.ret ⟨by rw[hd],M.tch⟩
section
variable {u:z11}
theorem tree_long{u:z11}(l:64<u.length){kind:Int}(hk:kind=1∨kind=2∨kind=3){n D:Nat}{h:AHeap}:world n (D+1) 24 [.agg [.int .i64 kind,z12 u]] h=some (.ret (.tup [.agg (z25 0 zeroW .nsl),.agg [.int .i64 3,.int .i64 64]]),h):=by
 rcases hk with rfl|rfl|rfl
 ·apply Wp.eq
  rw[z41];refine Wp.gc ?_
  suffices hK:Wp (z18 (world n D) n [.int .i64 1,z12 u] h) fun r h'=>r=.ret (.tup [.agg (z25 0 zeroW .nsl),.agg [.int .i64 3,.int .i64 64]])∧Tch [] h h' from hK.mono fun r h' ⟨e,t⟩=>⟨t.above,by rw[e];rfl,e,rfl⟩
  unfold z18;have ll:=z1b u;have Mx:=Mem.nil [] h
  repeat(first|(with_reducible apply Wp.obind;first|exact z5 _ _|exact z34 _|exact ze _ _ _)|((with_reducible apply y14 Mx);rfl)|((with_reducible apply y11 Mx);rfl;rfl;(rfl);clear Mx;intro _ Mx)|((with_reducible apply y1a Mx);rfl)|((with_reducible apply y1c Mx);rfl;rfl;(rfl);clear Mx;intro _ Mx)|((with_reducible apply y1d Mx);rfl)|((with_reducible apply yc Mx);clear Mx;intro _ Mx)|((with_reducible apply y16 Mx);(rfl);clear Mx;intro _ Mx)|(with_reducible first|refine y5 (fun _ _=>?_)|refine Wp.lett ?_)|((with_reducible refine y8 ?_ ?_);((with_reducible first|apply decide_eq_true|apply zab);omega))|((with_reducible refine y7 ?_ ?_);first|(with_reducible rfl)|((with_reducible apply zc9);omega))|(with_reducible refine yd (by assumption) ?_)|rw[z8])
  exact Wp.ret ⟨rfl,Mx.tch⟩
 ·apply Wp.eq
  rw[z41];refine Wp.gc ?_
  suffices hK:Wp (z18 (world n D) n [.int .i64 2,z12 u] h) fun r h'=>r=.ret (.tup [.agg (z25 0 zeroW .nsl),.agg [.int .i64 3,.int .i64 64]])∧Tch [] h h' from hK.mono fun r h' ⟨e,t⟩=>⟨t.above,by rw[e];rfl,e,rfl⟩
  unfold z18;have ll:=z1b u;have Mx:=Mem.nil [] h
  repeat(first|(with_reducible apply Wp.obind;first|exact z5 _ _|exact z34 _|exact ze _ _ _)|((with_reducible apply y14 Mx);rfl)|((with_reducible apply y11 Mx);rfl;rfl;(rfl);clear Mx;intro _ Mx)|((with_reducible apply y1a Mx);rfl)|((with_reducible apply y1c Mx);rfl;rfl;(rfl);clear Mx;intro _ Mx)|((with_reducible apply y1d Mx);rfl)|((with_reducible apply yc Mx);clear Mx;intro _ Mx)|((with_reducible apply y16 Mx);(rfl);clear Mx;intro _ Mx)|(with_reducible first|refine y5 (fun _ _=>?_)|refine Wp.lett ?_)|((with_reducible refine y8 ?_ ?_);((with_reducible first|apply decide_eq_true|apply zab);omega))|((with_reducible refine y7 ?_ ?_);first|(with_reducible rfl)|((with_reducible apply zc9);omega))|(with_reducible refine yd (by assumption) ?_)|rw[z8])
  exact Wp.ret ⟨rfl,Mx.tch⟩
 ·apply Wp.eq
  rw[z41];refine Wp.gc ?_
  suffices hK:Wp (z18 (world n D) n [.int .i64 3,z12 u] h) fun r h'=>r=.ret (.tup [.agg (z25 0 zeroW .nsl),.agg [.int .i64 3,.int .i64 64]])∧Tch [] h h' from hK.mono fun r h' ⟨e,t⟩=>⟨t.above,by rw[e];rfl,e,rfl⟩
  unfold z18;have ll:=z1b u;have Mx:=Mem.nil [] h
  repeat(first|(with_reducible apply Wp.obind;first|exact z5 _ _|exact z34 _|exact ze _ _ _)|((with_reducible apply y14 Mx);rfl)|((with_reducible apply y11 Mx);rfl;rfl;(rfl);clear Mx;intro _ Mx)|((with_reducible apply y1a Mx);rfl)|((with_reducible apply y1c Mx);rfl;rfl;(rfl);clear Mx;intro _ Mx)|((with_reducible apply y1d Mx);rfl)|((with_reducible apply yc Mx);clear Mx;intro _ Mx)|((with_reducible apply y16 Mx);(rfl);clear Mx;intro _ Mx)|(with_reducible first|refine y5 (fun _ _=>?_)|refine Wp.lett ?_)|((with_reducible refine y8 ?_ ?_);((with_reducible first|apply decide_eq_true|apply zab);omega))|((with_reducible refine y7 ?_ ?_;apply zc9);omega)|(with_reducible refine yd (by assumption) ?_)|rw[z8])
  exact Wp.ret ⟨rfl,Mx.tch⟩
end
end
theorem z48b:(List.range 64).all (fun k=>Nat.beq (tzT.getD (2 ^ k*285870213051353865%18446744073709551616/288230376151711744) 0) k)=true:=by kernel_rfl
theorem low_ex:∀(f m:Nat),m<f→m≠0→∃k q,m=2 ^ k*(2*q+1)
 |0,_,h,_=>by omega
 |f+1,m,h,h0=>by
  rcases Nat.mod_two_eq_zero_or_one m with e|e
  ·obtain ⟨k, q, hk⟩ := low_ex f (m / 2) (by omega) (by omega)
   refine⟨k+1,q,?_⟩;rw[Nat.pow_succ,Nat.mul_right_comm, ←hk];omega
  ·exact⟨0,m/2,by omega⟩
theorem and_compl{j q:Nat}(hq:q<2 ^ j):q&&&(2 ^ j - (q+1))=0:=by
 refine Nat.eq_of_testBit_eq fun i=>?_;rw[Nat.testBit_and,Nat.testBit_two_pow_sub_succ hq,Nat.zero_testBit]
 cases q.testBit i<;>simp
theorem odd_and(a b:Nat)(h:a&&&b=0):(2*a+1)&&&(2*b+1)=1:=by
 refine Nat.eq_of_testBit_eq fun i=>?_;rw[Nat.testBit_and]
 cases i with
 |zero=>simp[Nat.testBit_zero,Nat.add_mod]
 |succ i=>
  have e:=congrArg (fun x=>x.testBit i) h;rw[Nat.testBit_and,Nat.zero_testBit] at e;rw[Nat.testBit_succ,Nat.testBit_succ,Nat.testBit_succ,show (2*a+1)/2=a by omega,show (2*b+1)/2=b by omega,e]
  simp
theorem low_and{m k q:Nat}(hm:m=2 ^ k*(2*q+1))(hb:m<18446744073709551616):k<64∧m&&&(18446744073709551616 - m)%18446744073709551616=2 ^ k:=by
  have hp:0<2 ^ k:=Nat.pow_pos (by decide)
  have hk:k<64:=by
    apply Nat.lt_of_not_le;intro hk;have h1:=Nat.pow_le_pow_right (n:=2) (by decide) hk;have h2:2 ^ k*1≤2 ^ k*(2*q+1):=Nat.mul_le_mul_left _ (by omega);omega
  refine⟨hk,?_⟩;obtain⟨j,hj⟩:∃j,63=k+j:=⟨63 - k,by omega⟩
  have h64:18446744073709551616=2 ^ k*(2*2 ^ j):=by
    rw[←Nat.mul_assoc,Nat.mul_comm (2 ^ k) 2,Nat.mul_assoc, ←Nat.pow_add, ←hj]
  have hq:q<2 ^ j:=by
    have h3:2 ^ k*(2*q+1)<2 ^ k*(2*2 ^ j):=by rw[←hm, ←h64];exact hb
    have:=Nat.lt_of_mul_lt_mul_left h3;omega
  have h5:(18446744073709551616 - m)%18446744073709551616=2 ^ k*(2*(2 ^ j - (q+1))+1):=by
    rw [Nat.mod_eq_of_lt (by have : 0 < m := by rw [hm]; exact Nat.mul_pos hp (by omega)
                             omega),h64,hm, ←Nat.mul_sub]
    congr 1
    omega
  rw[h5,hm];have h6:=odd_and _ _ (and_compl hq);rw[Nat.mul_comm,Nat.mul_comm (2 ^ k) (2*(2 ^ j - (q+1))+1), ←Nat.shiftLeft_eq, ←Nat.shiftLeft_eq, ←Nat.shiftLeft_and_distrib,h6,Nat.shiftLeft_eq,Nat.one_mul]
theorem tz_low{m k q:Nat}(hm:m=2 ^ k*(2*q+1))(hb:m<18446744073709551616):tzN m=k:=by
 obtain⟨hk,h⟩:=low_and hm hb;have:=List.all_eq_true.1 z48b k (List.mem_range.2 hk);unfold tzN tzI;rw[h];exact Nat.eq_of_beq_eq_true this
theorem low_bits{m k q:Nat}(hm:m=2 ^ k*(2*q+1)):m.testBit k=true∧∀i,(m&&&(m - 1)).testBit i=(m.testBit i&& !decide (i=k)):=by
 have hp:0<2 ^ k:=Nat.pow_pos (by decide);have d1:m/2 ^ k=2*q+1:=by rw[hm,Nat.mul_div_cancel_left _ hp]
 have d2:(m - 1)/2 ^ k=2*q:=by
  have:=Nat.mul_sub_div 0 (2 ^ k) (2*q+1) (Nat.mul_pos hp (by omega));rw[Nat.zero_add,Nat.zero_div, ←hm] at this;rw[this];omega
 have hk:m.testBit k=true:=by
  rw[Nat.testBit_eq_decide_div_mod_eq,d1];exact decide_eq_true (by omega)
 refine⟨hk,fun i=>?_⟩;rw[Nat.testBit_and]
 rcases Nat.lt_trichotomy i k with h|h|h
 ·have : m.testBit i = false := by
   obtain⟨j,hj⟩:∃j,k=i+(j+1):=⟨k - i - 1,by omega⟩;rw[Nat.testBit_eq_decide_div_mod_eq,hm,hj,Nat.pow_add,Nat.mul_assoc,Nat.mul_div_cancel_left _ (Nat.pow_pos (by decide)),Nat.pow_succ,Nat.mul_comm (2 ^ j) 2,Nat.mul_assoc];exact decide_eq_false (by omega)
  rw[this,Bool.false_and,Bool.false_and]
 ·subst h
  have:(m - 1).testBit i=false:=by
   rw[Nat.testBit_eq_decide_div_mod_eq,d2];exact decide_eq_false (by omega)
  rw[this,decide_eq_true rfl]
  simp
 ·obtain ⟨j, hj⟩ : ∃ j, i = k + (j + 1) := ⟨i - k - 1, by omega⟩
  have e:∀x:Nat,x/2 ^ i=x/2 ^ k/2/2 ^ j:=fun x=>by rw[hj,Nat.pow_add,Nat.pow_succ,Nat.mul_comm (2 ^ j) 2, ←Nat.mul_assoc, ←Nat.div_div_eq_div_mul, ←Nat.div_div_eq_div_mul]
  have:(m - 1).testBit i=m.testBit i:=by
   rw[Nat.testBit_eq_decide_div_mod_eq,Nat.testBit_eq_decide_div_mod_eq,e,e,d1,d2,show (2*q+1)/2=2*q/2 by omega]
  rw[this,decide_eq_false (by omega)]
  simp
theorem z47a(fo:List Nat):∀(f m acc:Nat),m<f→m<18446744073709551616→∀r,(behF fo f m acc).testBit r=true↔acc.testBit r=true∨∃q,m.testBit q=true∧(fo.getD q 0).testBit r=true
 |0,_,_,h,_,_=>by omega
 |f+1,m,acc,hf,hm,r=>by
  rw[behF]
  by_cases h0:m=0
  ·rw [if_pos h0, h0]
   refine⟨.inl,fun h=>?_⟩
   rcases h with h|⟨q,h,_⟩
   ·exact h
   ·rw [Nat.zero_testBit] at h
    cases h
  ·rw [if_neg h0]
   obtain⟨k,q,hkq⟩:=low_ex (m+1) m (by omega) h0;have hl:=low_lt h0;obtain⟨b1,b2⟩:=low_bits hkq;rw[z47a fo f _ _ (by omega) (by omega) r,tz_low hkq hm,Nat.testBit_or,Bool.or_eq_true];constructor
   ·rintro ((h | h) | ⟨p, h, h2⟩)
    ·exact .inl h
    ·exact .inr ⟨k,b1,h⟩
    ·rw [b2, Bool.and_eq_true] at h
     exact .inr ⟨p,h.1,h2⟩
   ·rintro (h | ⟨p, h, h2⟩)
    ·exact .inl (.inl h)
    ·by_cases hp : p = k
     ·subst hp
      exact .inl (.inr h2)
     ·refine .inr ⟨p, ?_, h2⟩
      rw[b2,h,decide_eq_false hp];rfl
theorem z33b{N:Nt}{m:Nat}(hm:m<18446744073709551616)(r:Nat):(N.behind m).testBit r=true↔∃q,m.testBit q=true∧(N.fo.getD q 0).testBit r=true:=by
 unfold Nt.behind;rw[z47a N.fo _ m 0 (by omega) hm r,Nat.zero_testBit]
 simp
structure Frag where
 e:Bool
 F:Nat→Prop
 L:Nat→Prop
 E:Nat→Nat→Prop
 K:Nat→Nat→Prop
inductive Walk (a:Frag):Nat→List Nat→Nat→Prop
 |nil {q:Nat}:Walk a q [] q
 |cons {q r q' c:Nat} {s:List Nat} (e:a.E q r) (k:a.K r c) (w:Walk a r s q'):Walk a q (c::s) q'
def z437(a:Frag):List Nat→Prop
 |[]=>False
 |c::s=>∃q q',a.F q∧a.K q c∧a.L q'∧Walk a q s q'
structure Rec (a:Frag) (P:List Nat→Prop) (lo hi:Nat):Prop where
 e:a.e=true↔P []
 f:∀{c:Nat} {s:List Nat},z437 a (c::s)↔P (c::s)
 le:lo≤hi
 F:∀{q},a.F q→lo≤q∧q<hi
 L:∀{q},a.L q→lo≤q∧q<hi
 E:∀{q r},a.E q r→(lo≤q∧q<hi)∧lo≤r∧r<hi
 K:∀{q c},a.K q c→lo≤q∧q<hi
theorem Walk.mono{a b:Frag}(hE:∀{q r},a.E q r→b.E q r)(hK:∀{q c},a.K q c→b.K q c){q q':Nat}{s:List Nat}(w:Walk a q s q'):Walk b q s q':=by
 induction w with
 |nil=>exact .nil
 |cons e k _ ih=>exact .cons (hE e) (hK k) ih
theorem Walk.app{a:Frag}{q r q':Nat}{s t:List Nat}(w:Walk a q s r)(v:Walk a r t q'):Walk a q (s++t) q':=by
 induction w with
 |nil=>exact v
 |cons e k _ ih=>exact .cons e k (ih v)
def noF:Frag:=⟨true,fun _=>False,fun _=>False,fun _ _=>False,fun _ _=>False⟩
def badF:Frag:=⟨false,fun _=>False,fun _=>False,fun _ _=>False,fun _ _=>False⟩
def setF(w:List Nat)(u:Nat):Frag:=⟨false,fun q=>q=u,fun q=>q=u,fun _ _=>False,fun q c=>q=u∧inW w c=true⟩
def z477(a b:Frag):Frag:=⟨a.e&&b.e,fun q=>a.F q∨(a.e=true∧b.F q),fun q=>b.L q∨(b.e=true∧a.L q),fun q r=>a.E q r∨b.E q r∨(a.L q∧b.F r),fun q c=>a.K q c∨b.K q c⟩
def altF(a b:Frag):Frag:=⟨a.e||b.e,fun q=>a.F q∨b.F q,fun q=>a.L q∨b.L q,fun q r=>a.E q r∨b.E q r,fun q c=>a.K q c∨b.K q c⟩
def z36e(a:Frag)(e:Bool):Frag:=⟨e,a.F,a.L,fun q r=>a.E q r∨(a.L q∧a.F r),a.K⟩
def optF(a:Frag):Frag:=⟨true,a.F,a.L,a.E,a.K⟩
inductive Plus (P:List Nat→Prop):List Nat→Prop
 |one {s:List Nat} (h:P s):Plus P s
 |more {s t:List Nat} (h:P s) (m:Plus P t):Plus P (s++t)
def Cat(P Q:List Nat→Prop)(s:List Nat):Prop:=∃s1 s2,s=s1++s2∧P s1∧Q s2
section
variable {a b:Frag}{P Q:List Nat→Prop}{lo mid hi u:Nat}{w:List Nat}
theorem z40e(u:Nat):Rec noF (fun s=>s=[]) u u:=by
 refine⟨⟨fun _=>rfl,fun _=>rfl⟩,⟨fun h=>?_,fun h=>?_⟩,Nat.le_refl _,fun h=>False.elim h,fun h=>False.elim h,fun h=>False.elim h,fun h=>False.elim h⟩
 ·obtain ⟨_, _, h, _⟩ := h
  exact False.elim h
 ·cases h
theorem badF_rec(u:Nat):Rec badF (fun _=>False) u u:=by
 refine⟨⟨fun h=>?_,fun h=>False.elim h⟩,⟨fun h=>?_,fun h=>False.elim h⟩,Nat.le_refl _,fun h=>False.elim h,fun h=>False.elim h,fun h=>False.elim h,fun h=>False.elim h⟩
 ·cases h
 ·obtain ⟨_, _, h, _⟩ := h
  exact False.elim h
theorem setF_rec:Rec (setF w u) (fun s=>∃c,s=[c]∧inW w c=true) u (u+1):=by
 refine⟨⟨fun h=>?_,fun h=>?_⟩,⟨?_,?_⟩,by omega,fun h=>?_,fun h=>?_,fun h=>False.elim h,fun h=>?_⟩
 ·cases h
 ·obtain ⟨_, h, _⟩ := h
  cases h
 ·rintro ⟨q, q', _, k, _, v⟩
  cases v with
  |nil=>exact⟨_,rfl,k.2⟩
  |cons e _ _=>exact False.elim e
 ·rintro ⟨c, h, k⟩
  cases h;exact⟨u,u,rfl,⟨rfl,k⟩,rfl,.nil⟩
 ·have : _ = u := h
  omega
 ·have : _ = u := h
  omega
 ·have := h.1
  omega
theorem opt_rec(h:Rec a P lo hi):Rec (optF a) (fun s=>s=[]∨P s) lo hi:=by
 refine⟨⟨fun _=>.inl rfl,fun _=>rfl⟩,⟨fun ⟨q,q',h1,h2,h3,v⟩=>.inr (h.f.1 ⟨q,q',h1,h2,h3,Walk.mono (a:=optF a) (b:=a) (fun h=>h) (fun h=>h) v⟩),fun hp=>?_⟩,h.le,h.F,h.L,h.E,h.K⟩
 rcases hp with hp|hp
 ·cases hp
 ·obtain ⟨q, q', h1, h2, h3, v⟩ := h.f.2 hp
  exact⟨q,q',h1,h2,h3,Walk.mono (a:=a) (b:=optF a) (fun h=>h) (fun h=>h) v⟩
theorem Walk.left(ha:Rec a P lo mid)(hb:Rec b Q mid hi){X:Nat→Nat→Prop}{f:Frag}(hE:∀{q r},f.E q r→a.E q r∨b.E q r∨X q r)(hX:∀{q r},X q r→r<mid→False)(hK:∀{q c},f.K q c→a.K q c∨b.K q c){q q':Nat}{s:List Nat}(v:Walk f q s q'):
  q<mid→q'<mid→Walk a q s q':=by
 have back:∀{q q':Nat} {s:List Nat},Walk f q s q'→mid≤q→(∀{q r},X q r→mid≤r)→mid≤q':=by
  intro q q' s v
  induction v with
  |nil=>exact fun h _=>h
  |cons e k _ ih=>
   intro hq hx
   rcases hE e with h|h|h
   ·have := (ha.E h).1
    omega
   ·exact ih (hb.E h).2.1 hx
   ·exact ih (hx h) hx
 have hx2:∀{q r},X q r→mid≤r:=fun h=>Nat.le_of_not_lt fun h2=>hX h h2
 induction v with
 |nil=>exact fun _ _=>.nil
 |cons e k w ih=>
  intro h1 h2
  rcases hE e with h|h|h
  ·refine .cons h ?_ (ih (ha.E h).2.2 h2)
   rcases hK k with k|k
   ·exact k
   ·have := hb.K k
    have:=(ha.E h).2;omega
  ·have := (hb.E h).1
   omega
  ·have := back w (hx2 h) hx2
   omega
theorem Walk.right(ha:Rec a P lo mid)(hb:Rec b Q mid hi){X:Nat→Nat→Prop}{f:Frag}(hE:∀{q r},f.E q r→a.E q r∨b.E q r∨X q r)(hX:∀{q r},X q r→q<mid)(hK:∀{q c},f.K q c→a.K q c∨b.K q c){q q':Nat}{s:List Nat}(v:Walk f q s q'):
  mid≤q→Walk b q s q'∧mid≤q':=by
 induction v with
 |nil=>exact fun h=>⟨.nil,h⟩
 |cons e k w ih=>
  intro h1
  rcases hE e with h|h|h
  ·have := (ha.E h).1
   omega
  ·obtain ⟨i1, i2⟩ := ih (hb.E h).2.1
   refine⟨.cons h ?_ i1,i2⟩
   rcases hK k with k|k
   ·have := ha.K k
    have:=(hb.E h).2;omega
   ·exact k
  ·have := hX h
   omega
theorem alt_rec(ha:Rec a P lo mid)(hb:Rec b Q mid hi):Rec (altF a b) (fun s=>P s∨Q s) lo hi:=by
 have l1:=ha.le;have l2:=hb.le;refine⟨?_,⟨?_,?_⟩,by omega,fun h=>?_,fun h=>?_,fun h=>?_,fun h=>?_⟩
 ·show (a.e || b.e) = true ↔ _
  rw[Bool.or_eq_true,ha.e,hb.e]
 ·rintro ⟨q, q', h1, h2, h3, v⟩
  rcases h1 with h1|h1
  ·have hq := ha.F h1
   have hq':q'<mid:=by
    rcases h3 with h3|h3
    ·exact(ha.L h3).2
    ·apply Nat.lt_of_not_le
     intro hh
     have:∀{q q':Nat} {s:List Nat},Walk (altF a b) q s q'→q<mid→q'<mid:=by
      intro q q' s v
      induction v with
      |nil=>exact fun h=>h
      |cons e k w ih=>
       intro h
       rcases e with e|e
       ·exact ih (ha.E e).2.2
       ·have := (hb.E e).1
        omega
     have:=this v hq.2;omega
   have v2:=Walk.left ha hb (X:=fun _ _=>False) (f:=altF a b) (fun e=>Or.elim e Or.inl fun e=>Or.inr (Or.inl e)) (fun h _=>False.elim h) (fun k=>k) v hq.2 hq';refine .inl (ha.f.1 ⟨q,q',h1,?_,?_,v2⟩)
   ·rcases h2 with h2 | h2
    ·exact h2
    ·have := hb.K h2
     omega
   ·rcases h3 with h3 | h3
    ·exact h3
    ·have := hb.L h3
     omega
  ·have hq := hb.F h1
   obtain⟨v2,hq'⟩:=Walk.right ha hb (X:=fun _ _=>False) (f:=altF a b) (fun e=>Or.elim e Or.inl fun e=>Or.inr (Or.inl e)) (fun h=>False.elim h) (fun k=>k) v hq.1;refine .inr (hb.f.1 ⟨q,q',h1,?_,?_,v2⟩)
   ·rcases h2 with h2 | h2
    ·have := ha.K h2
     omega
    ·exact h2
   ·rcases h3 with h3 | h3
    ·have := ha.L h3
     omega
    ·exact h3
 ·rintro (h | h)
  ·obtain ⟨q, q', h1, h2, h3, v⟩ := ha.f.2 h
   exact⟨q,q',Or.inl h1,Or.inl h2,Or.inl h3,v.mono (b:=altF a b) (fun h=>Or.inl h) (fun h=>Or.inl h)⟩
  ·obtain ⟨q, q', h1, h2, h3, v⟩ := hb.f.2 h
   exact⟨q,q',Or.inr h1,Or.inr h2,Or.inr h3,v.mono (b:=altF a b) (fun h=>Or.inr h) (fun h=>Or.inr h)⟩
 ·rcases h with h | h
  ·have := ha.F h
   omega
  ·have := hb.F h
   omega
 ·rcases h with h | h
  ·have := ha.L h
   omega
  ·have := hb.L h
   omega
 ·rcases h with h | h
  ·have := ha.E h
   omega
  ·have := hb.E h
   omega
 ·rcases h with h | h
  ·have := ha.K h
   omega
  ·have := hb.K h
   omega
end
section
variable {a b:Frag}{P Q:List Nat→Prop}{lo mid hi:Nat}{e0:Bool}
theorem cat_split(ha:Rec a P lo mid)(hb:Rec b Q mid hi){q q':Nat}{s:List Nat}(v:Walk (z477 a b) q s q'):q<mid→mid≤q'→∃s1 c s2 p r,s=s1++c::s2∧Walk a q s1 p∧a.L p∧b.F r∧b.K r c∧Walk b r s2 q':=by
 induction v with
 |nil=>intro h1 h2;omega
 | @cons q r q' c s e k w ih=>
  intro h1 h2;have e':a.E q r∨b.E q r∨(a.L q∧b.F r):=e;have k':a.K r c∨b.K r c:=k
  rcases e' with e'|e'|⟨e1,e2⟩
  ·obtain ⟨s1, c', s2, p, r', es, w1, hp, hr, hk, w2⟩ := ih (ha.E e').2.2 h2
   refine⟨c::s1,c',s2,p,r',by rw[es];rfl,.cons e' ?_ w1,hp,hr,hk,w2⟩
   rcases k' with k'|k'
   ·exact k'
   ·have := hb.K k'
    have:=(ha.E e').2;omega
  ·have := (hb.E e').1
   omega
  ·have hr := hb.F e2
   refine⟨[],c,s,q,r,rfl,.nil,e1,e2,?_,(Walk.right ha hb (X:=fun q r=>a.L q∧b.F r) (f:=z477 a b) (fun e=>e) (fun h=>(ha.L h.1).2) (fun k=>k) w hr.1).1⟩
   rcases k' with k'|k'
   ·have := ha.K k'
    omega
   ·exact k'
theorem cat_rec(ha:Rec a P lo mid)(hb:Rec b Q mid hi):Rec (z477 a b) (Cat P Q) lo hi:=by
 have l1:=ha.le;have l2:=hb.le;refine⟨?_,⟨?_,?_⟩,by omega,fun h=>?_,fun h=>?_,fun h=>?_,fun h=>?_⟩
 ·show (a.e && b.e) = true ↔ _
  rw[Bool.and_eq_true,ha.e,hb.e];constructor
  ·exact fun ⟨h1,h2⟩=>⟨[],[],rfl,h1,h2⟩
  ·rintro ⟨s1, s2, e, h1, h2⟩
   obtain⟨rfl,rfl⟩:=List.append_eq_nil_iff.1 e.symm;exact⟨h1,h2⟩
 ·rintro ⟨q, q', h1, h2, h3, v⟩
  rename_i c s;have h1':a.F q∨(a.e=true∧b.F q):=h1;have h2':a.K q c∨b.K q c:=h2;have h3':b.L q'∨(b.e=true∧a.L q'):=h3
  rcases h1' with h1'|⟨he,h1'⟩
  ·have hq := ha.F h1'
   have hk:a.K q c:=by
    rcases h2' with h|h
    ·exact h
    ·have := hb.K h
     omega
   rcases h3' with h3'|⟨hbe,h3'⟩
   ·obtain ⟨s1, c', s2, p, r, es, w1, hp, hr, hk2, w2⟩ := cat_split ha hb v hq.2 (hb.L h3').1
    refine⟨c::s1,c'::s2,by rw[es];rfl,ha.f.1 ⟨q,p,h1',hk,hp,w1⟩,hb.f.1 ⟨r,q',hr,hk2,h3',w2⟩⟩
   ·have w := Walk.left ha hb (X := fun q r => a.L q ∧ b.F r) (f := z477 a b) (fun e => e) (fun h h2 => by have := hb.F h.2; omega) (fun k => k) v hq.2 (ha.L h3').2
    exact⟨c::s,[],(List.append_nil _).symm,ha.f.1 ⟨q,q',h1',hk,h3',w⟩,hb.e.1 hbe⟩
  ·have hq := hb.F h1'
   obtain⟨w,hq'⟩:=Walk.right ha hb (X:=fun q r=>a.L q∧b.F r) (f:=z477 a b) (fun e=>e) (fun h=>(ha.L h.1).2) (fun k=>k) v hq.1
   have hk:b.K q c:=by
    rcases h2' with h|h
    ·have := ha.K h
     omega
    ·exact h
   rcases h3' with h3'|⟨_,h3'⟩
   ·exact⟨[],c::s,rfl,ha.e.1 he,hb.f.1 ⟨q,q',h1',hk,h3',w⟩⟩
   ·have := ha.L h3'
    omega
 ·rintro ⟨s1, s2, es, hp, hq⟩
  have mb:∀{q q':Nat} {s:List Nat},Walk b q s q'→Walk (z477 a b) q s q':=fun w=>Walk.mono (a:=b) (b:=z477 a b) (fun h=>Or.inr (Or.inl h)) (fun h=>Or.inr h) w;have ma:∀{q q':Nat} {s:List Nat},Walk a q s q'→Walk (z477 a b) q s q':=fun w=>Walk.mono (a:=a) (b:=z477 a b) (fun h=>Or.inl h) (fun h=>Or.inl h) w
  cases s1 with
  |nil=>
   rw[List.nil_append] at es;rw[←es] at hq;obtain⟨q,q',h1,h2,h3,v⟩:=hb.f.2 hq;exact⟨q,q',Or.inr ⟨ha.e.2 hp,h1⟩,Or.inr h2,Or.inl h3,mb v⟩
  |cons c1 s1=>
   rw[List.cons_append,List.cons.injEq] at es;obtain⟨rfl,es⟩:=es;obtain⟨q,p,h1,h2,h3,v⟩:=ha.f.2 hp
   cases s2 with
   |nil=>
    rw[List.append_nil] at es;subst es;exact⟨q,p,Or.inl h1,Or.inl h2,Or.inr ⟨hb.e.2 hq,h3⟩,ma v⟩
   |cons c2 s2=>
    obtain⟨r,q',g1,g2,g3,w⟩:=hb.f.2 hq;subst es;exact⟨q,q',Or.inl h1,Or.inl h2,Or.inl g3,(ma v).app (Walk.cons (a:=z477 a b) (Or.inr (Or.inr ⟨h3,g1⟩)) (Or.inr g2) (mb w))⟩
 ·rcases h with h | ⟨_, h⟩
  ·have := ha.F h
   omega
  ·have := hb.F h
   omega
 ·rcases h with h | ⟨_, h⟩
  ·have := hb.L h
   omega
  ·have := ha.L h
   omega
 ·rcases h with h | h | ⟨h, g⟩
  ·have := ha.E h
   omega
  ·have := hb.E h
   omega
  ·have := ha.L h
   have:=hb.F g;omega
 ·rcases h with h | h
  ·have := ha.K h
   omega
  ·have := hb.K h
   omega
theorem plus_nil:Plus P []↔P []:=by
 refine⟨fun h=>?_,fun h=>.one h⟩
 generalize hs:([]:List Nat)=s at h
 induction h with
 |one h=>
  subst hs;exact h
 |more h _ _=>
  obtain⟨e1,_⟩:=List.append_eq_nil_iff.1 hs.symm;rw[e1] at h;rw[←hs];exact h
theorem z4a3(ha:Rec a P lo hi){q q':Nat}{s:List Nat}(v:Walk (z36e a e0) q s q'):a.L q'→∃s1 s2 p,s=s1++s2∧Walk a q s1 p∧a.L p∧(s2=[]∨Plus P s2):=by
 induction v with
 |nil=>exact fun h=>⟨[],[],_,rfl,.nil,h,.inl rfl⟩
 | @cons q r q' c s e k w ih=>
  intro h;obtain⟨s1,s2,p,es,w1,hp,h2⟩:=ih h;have e':a.E q r∨(a.L q∧a.F r):=e
  rcases e' with e'|⟨e1,e2⟩
  ·exact⟨c::s1,s2,p,by rw[es];rfl,.cons e' k w1,hp,h2⟩
  ·have hP := ha.f.1 ⟨r, p, e2, k, hp, w1⟩
   refine⟨[],c::s,q,rfl,.nil,e1,.inr ?_⟩;rw[es]
   rcases h2 with rfl|h2
   ·rw [List.append_nil]
    exact .one hP
   ·exact .more hP h2
theorem more_fits(ha:Rec a P lo hi){c:Nat}{s:List Nat}:z437 (z36e a e0) (c::s)↔Plus P (c::s):=by
 have ma:∀{q q':Nat} {s:List Nat},Walk a q s q'→Walk (z36e a e0) q s q':=fun w=>Walk.mono (a:=a) (b:=z36e a e0) (fun h=>Or.inl h) (fun h=>h) w;constructor
 ·rintro ⟨q, q', h1, h2, h3, v⟩
  obtain⟨s1,s2,p,es,w1,hp,h4⟩:=z4a3 ha v h3;have hP:=ha.f.1 ⟨q,p,h1,h2,hp,w1⟩;rw[es]
  rcases h4 with rfl|h4
  ·rw [List.append_nil]
   exact .one hP
  ·exact .more hP h4
 ·intro h
  generalize hs:c::s=z at h
  induction h generalizing c s with
  |one h=>
   subst hs;obtain⟨q,q',h1,h2,h3,v⟩:=ha.f.2 h;exact⟨q,q',h1,h2,h3,ma v⟩
  | @more s1 t h m ih=>
   cases s1 with
   |nil=>exact ih hs
   |cons c1 s1=>
    rw[List.cons_append,List.cons.injEq] at hs;obtain⟨rfl,rfl⟩:=hs;obtain⟨q,p,h1,h2,h3,v⟩:=ha.f.2 h
    cases t with
    |nil=>
     rw[List.append_nil];exact⟨q,p,h1,h2,h3,ma v⟩
    |cons c2 t=>
     obtain⟨r,q',g1,g2,g3,w⟩:=ih rfl;exact⟨q,q',h1,h2,g3,(ma v).app (Walk.cons (a:=z36e a e0) (Or.inr ⟨h3,g1⟩) g2 w)⟩
theorem z453(ha:Rec a P lo hi){R:List Nat→Prop}(he:e0=true↔R [])(hR:∀{c s},R (c::s)↔Plus P (c::s)):Rec (z36e a e0) R lo hi:=by
 refine⟨he,(more_fits ha).trans hR.symm,ha.le,ha.F,ha.L,fun h=>?_,ha.K⟩
 rcases h with h|⟨h,g⟩
 ·exact ha.E h
 ·exact⟨ha.L h,ha.F g⟩
end
mutual
def z1a5:Nd→List Nat→Prop
 | .mk op w ks=>if op=2 then (fun s=>∃c,s=[c]∧inW w c=true) else if op=3 then z342 ks else if op=4 then z488 ks else if op=5 then (fun s=>s=[]∨Plus (z2fd ks) s) else if op=6 then Plus (z2fd ks) else if op=7 then (fun s=>s=[]∨z2fd ks s) else (fun s=>s=[])
def z342:List Nd→List Nat→Prop
 |[]=>fun s=>s=[]
 |k::ks=>Cat (z1a5 k) (z342 ks)
def z488:List Nd→List Nat→Prop
 |[]=>fun _=>False
 |k::ks=>fun s=>z1a5 k s∨z488 ks s
def z2fd:List Nd→List Nat→Prop
 |[]=>fun s=>s=[]
 |k::_=>z1a5 k
end
mutual
def ze7:Nd→Nat→Frag×Nat
 | .mk op w ks,u=>if op=2 then (setF w u,u+1) else if op=3 then catG ks noF u else if op=4 then altG ks badF u else if op=5 then (z36e (z1e9 ks u).1 true,(z1e9 ks u).2) else if op=6 then (z36e (z1e9 ks u).1 (z1e9 ks u).1.e,(z1e9 ks u).2) else if op=7 then (optF (z1e9 ks u).1,(z1e9 ks u).2) else (noF,u)
def catG:List Nd→Frag→Nat→Frag×Nat
 |[],a,u=>(a,u)
 |k::ks,a,u=>catG ks (z477 a (ze7 k u).1) (ze7 k u).2
def altG:List Nd→Frag→Nat→Frag×Nat
 |[],a,u=>(a,u)
 |k::ks,a,u=>altG ks (altF a (ze7 k u).1) (ze7 k u).2
def z1e9:List Nd→Nat→Frag×Nat
 |[],u=>(noF,u)
 |k::_,u=>ze7 k u
end
theorem Rec.congr{a:Frag}{P Q:List Nat→Prop}{lo hi:Nat}(h:Rec a P lo hi)(hq:∀s,P s↔Q s):Rec a Q lo hi:=
 ⟨h.e.trans (hq _),h.f.trans (hq _),h.le,h.F,h.L,h.E,h.K⟩
theorem cat_assoc{P Q R:List Nat→Prop}(s:List Nat):Cat (Cat P Q) R s↔Cat P (Cat Q R) s:=by
 constructor
 ·rintro ⟨_, s3, rfl, ⟨s1, s2, rfl, h1, h2⟩, h3⟩
  exact⟨s1,s2++s3,List.append_assoc _ _ _,h1,s2,s3,rfl,h2,h3⟩
 ·rintro ⟨s1, _, rfl, h1, s2, s3, rfl, h2, h3⟩
  exact⟨s1++s2,s3,(List.append_assoc _ _ _).symm,⟨s1,s2,rfl,h1,h2⟩,h3⟩
theorem z3df{P:List Nat→Prop}(s:List Nat):Cat (fun s=>s=[]) P s↔P s:=by
 constructor
 ·rintro ⟨_, s2, rfl, rfl, h⟩
  exact h
 ·exact fun h=>⟨[],s,rfl,rfl,h⟩
theorem z387{P:List Nat→Prop}(s:List Nat):Cat P (fun s=>s=[]) s↔P s:=by
 constructor
 ·rintro ⟨s1, _, rfl, h, rfl⟩
  rw[List.append_nil];exact h
 ·exact fun h=>⟨s,[],(List.append_nil _).symm,h,rfl⟩
mutual
theorem z24d:∀(t:Nd) (u:Nat),Rec (ze7 t u).1 (z1a5 t) u (ze7 t u).2
 | .mk op w ks,u=>by
  rw[ze7,z1a5]
  by_cases h2:op=2
  ·rw [if_pos h2, if_pos h2]
   exact setF_rec
  rw[if_neg h2,if_neg h2]
  by_cases h3:op=3
  ·rw [if_pos h3, if_pos h3]
   exact(z475 ks (z40e u)).congr z3df
  rw[if_neg h3,if_neg h3]
  by_cases h4:op=4
  ·rw [if_pos h4, if_pos h4]
   exact(z483 ks (badF_rec u)).congr fun s=>⟨fun h=>h.elim (fun h=>h.elim) (fun h=>h),.inr⟩
  rw[if_neg h4,if_neg h4];have hh:=headG_rec ks u
  by_cases h5:op=5
  ·rw [if_pos h5, if_pos h5]
   exact z453 hh ⟨fun _=>.inl rfl,fun _=>rfl⟩ ⟨fun h=>h.elim (fun h=>nomatch h) (fun h=>h),.inr⟩
  rw[if_neg h5,if_neg h5]
  by_cases h6:op=6
  ·rw [if_pos h6, if_pos h6]
   exact z453 hh (hh.e.trans plus_nil.symm) .rfl
  rw[if_neg h6,if_neg h6]
  by_cases h7:op=7
  ·rw [if_pos h7, if_pos h7]
   exact opt_rec hh
  ·rw [if_neg h7, if_neg h7]
   exact z40e u
theorem z475:∀(ks:List Nd) {a:Frag} {P:List Nat→Prop} {lo u:Nat},Rec a P lo u→Rec (catG ks a u).1 (Cat P (z342 ks)) lo (catG ks a u).2
 |[],_,_,_,_,h=>by
  rw[catG,z342];exact h.congr fun s=>(z387 s).symm
 |k::ks,_,_,_,_,h=>by
  rw[catG,z342];exact(z475 ks (cat_rec h (z24d k _))).congr cat_assoc
theorem z483:∀(ks:List Nd) {a:Frag} {P:List Nat→Prop} {lo u:Nat},Rec a P lo u→Rec (altG ks a u).1 (fun s=>P s∨z488 ks s) lo (altG ks a u).2
 |[],_,_,_,_,h=>by
  rw[altG,z488];exact h.congr fun s=>⟨.inl,fun h=>h.elim (fun h=>h) (fun h=>h.elim)⟩
 |k::ks,_,_,_,_,h=>by
  rw[altG,z488];exact(z483 ks (alt_rec h (z24d k _))).congr fun s=>or_assoc
theorem headG_rec:∀(ks:List Nd) (u:Nat),Rec (z1e9 ks u).1 (z2fd ks) u (z1e9 ks u).2
 |[],u=>by
  rw[z1e9,z2fd];exact z40e u
 |k::_,u=>by
  rw[z1e9,z2fd];exact z24d k u
end
def bitE(N:Nt)(q r:Nat):Prop:=(N.fo.getD q 0).testBit r=true
def z478(N:Nt)(r c:Nat):Prop:=(N.ta.getD c 0).testBit r=true
structure Rep (p:Pc) (a:Frag):Prop where
 e:p.empty=a.e
 F:∀q,p.first.testBit q=true↔a.F q
 L:∀q,p.last.testBit q=true↔a.L q
structure RepN (N N':Nt) (a:Frag):Prop where
 E:∀q r,bitE N' q r↔bitE N q r∨a.E q r
 K:∀r c,c<256→(z478 N' r c↔z478 N r c∨a.K r c)
theorem small_bit{x q:Nat}(h:x<18446744073709551616)(hq:x.testBit q=true):q<64:=by
 apply Nat.lt_of_not_le;intro hh;have h1:=Nat.pow_le_pow_right (n:=2) (by decide) hh;rw[Nat.testBit_lt_two_pow (by omega)] at hq;cases hq
theorem z2d8(g:Nat→Nat→Nat){l:List Nat}{q:Nat}(h:q<l.length):(z36f g 0 l).getD q 0=g q (l.getD q 0):=by
 rw[List.getD_eq_getElem?_getD,List.getD_eq_getElem?_getD,z246,Nat.zero_add,List.getElem?_eq_getElem h];rfl
theorem z376{l:List Nat}{q:Nat}(h:l.length≤q):l.getD q 0=0:=by
 rw[List.getD_eq_getElem?_getD,List.getElem?_eq_none h];rfl
theorem z32e{N:Nt}(k:NtOk N){those these:Nat}(ht:those<18446744073709551616)(q r:Nat):bitE (N.follow those these) q r↔bitE N q r∨(those.testBit q=true∧these.testBit r=true):=by
 unfold bitE;show ((z36f (folG those these) 0 N.fo).getD q 0).testBit r=true↔_
 by_cases hq:q<64
 ·rw [z2d8 _ (by rw [k.fl]; exact hq)]
  unfold folG
  by_cases hb:those.testBit q=true
  ·rw [if_pos hb, Nat.testBit_or, Bool.or_eq_true]
   simp[hb]
  ·rw [if_neg hb]
   simp[hb]
 ·rw [z376 (by rw [z1fb, k.fl]; omega), z376 (by rw [k.fl]; omega), Nat.zero_testBit]
  constructor
  ·exact fun h=>nomatch h
  ·rintro (h | ⟨h, _⟩)
   ·exact h
   ·exact absurd (small_bit ht h) hq
theorem place_bit{N:Nt}(k:NtOk N){w:List Nat}{u:Nat}(hu:u<64)(r c:Nat)(hc:c<256):z478 (N.place w (bitN u)) r c↔z478 N r c∨(r=u∧inW w c=true):=by
 unfold z478;show ((z36f (plG w (bitN u)) 0 N.ta).getD c 0).testBit r=true↔_;rw[z2d8 _ (by rw[k.tl];exact hc)];unfold plG bitN;rw[if_pos hu]
 by_cases hb:inW w c=true
 ·rw [if_pos hb, Nat.testBit_or, Bool.or_eq_true, Nat.testBit_two_pow, decide_eq_true_eq]
  simp only[hb,and_true];exact or_congr .rfl eq_comm
 ·rw [if_neg hb]
  simp[hb]
section
variable {N0 N N1:Nt}{a b:Frag}{p q:Pc}
theorem RepN.refl(N:Nt)(e:Bool):RepN N N ⟨e,fun _=>False,fun _=>False,fun _ _=>False,fun _ _=>False⟩:=⟨fun _ _=>(or_false _).to_iff.symm,fun _ _ _=>(or_false _).to_iff.symm⟩
theorem RepN.cat(k:NtOk N1)(hp:PcOk p)(h1:RepN N0 N a)(h2:RepN N N1 b)(rp:Rep p a)(rq:Rep q b):RepN N0 (N1.follow p.last q.first) (z477 a b):=by
 refine⟨fun x y=>?_,fun x c hc=>?_⟩
 ·rw [z32e k hp.l, h2.E, h1.E, rp.L, rq.F]
  show _↔_∨(a.E x y∨b.E x y∨(a.L x∧b.F y));rw[or_assoc,or_assoc]
 ·have : z478 (N1.follow p.last q.first) x c ↔ z478 N1 x c := .rfl
  rw[this,h2.K x c hc,h1.K x c hc];show _↔_∨(a.K x c∨b.K x c);rw[or_assoc]
theorem Rep.cat(rp:Rep p a)(rq:Rep q b):Rep (behN p q) (z477 a b):=by
 refine⟨?_,fun x=>?_,fun x=>?_⟩
 ·show (p.empty && q.empty) = (a.e && b.e)
  rw[rp.e,rq.e]
 ·show (if p.empty = true then p.first ||| q.first else p.first).testBit x = true ↔ a.F x ∨ (a.e = true ∧ b.F x)
  rw[rp.e]
  by_cases h:a.e=true
  ·rw [if_pos h, Nat.testBit_or, Bool.or_eq_true, rp.F, rq.F]
   simp[h]
  ·rw [if_neg h, rp.F]
   simp[h]
 ·show (if q.empty = true then q.last ||| p.last else q.last).testBit x = true ↔ b.L x ∨ (b.e = true ∧ a.L x)
  rw[rq.e]
  by_cases h:b.e=true
  ·rw [if_pos h, Nat.testBit_or, Bool.or_eq_true, rp.L, rq.L]
   simp[h]
  ·rw [if_neg h, rq.L]
   simp[h]
theorem RepN.alt(h1:RepN N0 N a)(h2:RepN N N1 b):RepN N0 N1 (altF a b):=by
 refine⟨fun x y=>?_,fun x c hc=>?_⟩
 ·rw [h2.E, h1.E]
  show _↔_∨(a.E x y∨b.E x y);rw[or_assoc]
 ·rw [h2.K x c hc, h1.K x c hc]
  show _↔_∨(a.K x c∨b.K x c);rw[or_assoc]
theorem Rep.alt(rp:Rep p a)(rq:Rep q b):Rep (altP p q) (altF a b):=by
 refine⟨?_,fun x=>?_,fun x=>?_⟩
 ·show (p.empty || q.empty) = (a.e || b.e)
  rw[rp.e,rq.e]
 ·show (p.first ||| q.first).testBit x = true ↔ a.F x ∨ b.F x
  rw[Nat.testBit_or,Bool.or_eq_true,rp.F,rq.F]
 ·show (p.last ||| q.last).testBit x = true ↔ a.L x ∨ b.L x
  rw[Nat.testBit_or,Bool.or_eq_true,rp.L,rq.L]
theorem RepN.more(k:NtOk N)(hp:PcOk p)(h1:RepN N0 N a)(rp:Rep p a)(e:Bool):RepN N0 (N.follow p.last p.first) (z36e a e):=by
 refine⟨fun x y=>?_,fun x c hc=>h1.K x c hc⟩;rw[z32e k hp.l,h1.E,rp.L,rp.F];show _↔_∨(a.E x y∨(a.L x∧a.F y));rw[or_assoc]
theorem z447(e:Bool):Rep ⟨e,0,0⟩ ⟨e,fun _=>False,fun _=>False,fun _ _=>False,fun _ _=>False⟩:=⟨rfl,fun q=>by rw[Nat.zero_testBit];simp,fun q=>by rw[Nat.zero_testBit];simp⟩
end
structure Reps (N0:Nt) (x:Pc×Nt×Nat) (y:Frag×Nat):Prop where
 p:Rep x.1 y.1
 n:RepN N0 x.2.1 y.1
 u:x.2.2=y.2
mutual
theorem frag_le:∀(t:Nd) (u:Nat),u≤(ze7 t u).2
 |t,u=>(z24d t u).le
theorem catG_le:∀(ks:List Nd) (a:Frag) (u:Nat),u≤(catG ks a u).2
 |[],_,_=>Nat.le_refl _
 |k::ks,_,u=>Nat.le_trans (frag_le k u) (catG_le ks _ _)
theorem altG_le:∀(ks:List Nd) (a:Frag) (u:Nat),u≤(altG ks a u).2
 |[],_,_=>Nat.le_refl _
 |k::ks,_,u=>Nat.le_trans (frag_le k u) (altG_le ks _ _)
end
mutual
theorem z239:∀(t:Nd) {N:Nt} {u:Nat},NtOk N→(ze7 t u).2≤64→Reps N (z51 t N u) (ze7 t u)
 | .mk op w ks,N,u,k,h=>by
  rw[ze7] at h;rw[z51,ze7]
  by_cases h2:op=2
  ·rw [if_pos h2] at h
   rw[if_pos h2,if_pos h2];have hu:u<64:=h;refine⟨⟨rfl,fun q=>?_,fun q=>?_⟩,⟨fun q r=>?_,fun r c hc=>place_bit k hu r c hc⟩,rfl⟩
   ·show (bitN u).testBit q = true ↔ q = u
    unfold bitN;rw[if_pos hu,Nat.testBit_two_pow,decide_eq_true_eq];exact eq_comm
   ·show (bitN u).testBit q = true ↔ q = u
    unfold bitN;rw[if_pos hu,Nat.testBit_two_pow,decide_eq_true_eq];exact eq_comm
   ·exact(or_false _).to_iff.symm
  rw[if_neg h2] at h;rw[if_neg h2,if_neg h2]
  by_cases h3:op=3
  ·rw [if_pos h3] at h
   rw[if_pos h3,if_pos h3];exact z474 ks k z2cd (z447 true) (RepN.refl N true) h
  rw[if_neg h3] at h;rw[if_neg h3,if_neg h3]
  by_cases h4:op=4
  ·rw [if_pos h4] at h
   rw[if_pos h4,if_pos h4];exact z482 ks k (z447 false) (RepN.refl N false) h
  rw[if_neg h4] at h;rw[if_neg h4,if_neg h4];have hk:=z460 ks (u:=u) k
  by_cases h5:op=5
  ·subst h5
   rw[if_pos rfl] at h;rw[if_pos (.inl rfl),if_pos rfl];have r:=z2e3 ks k h;refine⟨⟨?_,r.p.F,r.p.L⟩,r.n.more hk.n hk.p r.p true,r.u⟩;show ((z1cc ks N u).1.empty||true)=true;rw[Bool.or_true]
  rw[if_neg h5] at h
  by_cases h6:op=6
  ·subst h6
   rw[if_pos rfl] at h;rw[if_pos (.inr rfl),if_neg h5,if_pos rfl];have r:=z2e3 ks k h;refine⟨⟨?_,r.p.F,r.p.L⟩,r.n.more hk.n hk.p r.p _,r.u⟩;show ((z1cc ks N u).1.empty||false)=_;rw[Bool.or_false];exact r.p.e
  rw[if_neg h6] at h;rw[if_neg (fun hh=>hh.elim h5 h6),if_neg h5,if_neg h6]
  by_cases h7:op=7
  ·rw [if_pos h7] at h
   rw[if_pos h7,if_pos h7];have r:=z2e3 ks k h;exact⟨⟨rfl,r.p.F,r.p.L⟩,⟨r.n.E,r.n.K⟩,r.u⟩
  ·rw [if_neg h7, if_neg h7]
   exact⟨z447 true,RepN.refl N true,rfl⟩
theorem z474:∀(ks:List Nd) {N0 N:Nt} {p:Pc} {a:Frag} {u:Nat},NtOk N→PcOk p→Rep p a→RepN N0 N a→(catG ks a u).2≤64→Reps N0 (catN ks p N u) (catG ks a u)
 |[],_,_,_,_,_,_,_,rp,rn,_=>⟨rp,rn,rfl⟩
 |k::ks,N0,N,p,a,u,hN,hp,rp,rn,h=>by
  rw[catG] at h;rw[catN,catG];have r:=z239 k hN (Nat.le_trans (catG_le ks _ _) h);have o:=zd2 k (u:=u) hN;have:=z474 ks (N0:=N0) (u:=(ze7 k u).2) (o.n.follow (those:=p.last) o.p.f) (z42e hp o.p) (rp.cat r.p) (RepN.cat o.n hp rn r.n rp r.p) h;rw[r.u];exact this
theorem z482:∀(ks:List Nd) {N0 N:Nt} {p:Pc} {a:Frag} {u:Nat},NtOk N→Rep p a→RepN N0 N a→(altG ks a u).2≤64→Reps N0 (altN ks p N u) (altG ks a u)
 |[],_,_,_,_,_,_,rp,rn,_=>⟨rp,rn,rfl⟩
 |k::ks,N0,N,p,a,u,hN,rp,rn,h=>by
  rw[altG] at h;rw[altN,altG];have r:=z239 k hN (Nat.le_trans (altG_le ks _ _) h);have o:=zd2 k (u:=u) hN;have:=z482 ks (N0:=N0) (u:=(ze7 k u).2) o.n (rp.alt r.p) (rn.alt r.n) h;rw[r.u];exact this
theorem z2e3:∀(ks:List Nd) {N:Nt} {u:Nat},NtOk N→(z1e9 ks u).2≤64→Reps N (z1cc ks N u) (z1e9 ks u)
 |[],N,_,_,_=>⟨z447 true,RepN.refl N true,rfl⟩
 |k::_,_,_,hN,h=>by
  rw[z1e9] at h;rw[z1cc,z1e9];exact z239 k hN h
end
theorem z47e{x y:Nat}:x&&&y≠0↔∃r,x.testBit r=true∧y.testBit r=true:=by
 constructor
 ·intro h
  apply Classical.byContradiction;intro hn;refine h (Nat.eq_of_testBit_eq fun i=>?_);rw[Nat.zero_testBit,Nat.testBit_and];cases hx:x.testBit i with
  |false=>rfl
  |true=>
   cases hy:y.testBit i with
   |false=>rfl
   |true=>exact absurd ⟨i,hx,hy⟩ hn
 ·rintro ⟨r, h1, h2⟩ h
  have:=congrArg (fun z=>z.testBit r) h;rw[Nat.testBit_and,h1,h2,Nat.zero_testBit] at this
  cases this
theorem z1f1(fo:List Nat)(these q:Nat):∀i,(aheadF fo these i).testBit q=true↔q<i∧∃r,(fo.getD q 0).testBit r=true∧these.testBit r=true
 |0=>by
  rw[aheadF,Nat.zero_testBit]
  simp
 |i+1=>by
  rw[aheadF]
  by_cases hz:fo.getD i 0&&&these≠0
  ·rw [if_pos hz, Nat.testBit_or, Bool.or_eq_true, z1f1 fo these q i, Nat.testBit_two_pow, decide_eq_true_eq]
   constructor
   ·rintro (⟨h, h2⟩ | rfl)
    ·exact⟨by omega,h2⟩
    ·exact⟨by omega,z47e.1 hz⟩
   ·rintro ⟨h, h2⟩
    by_cases hq:q=i
    ·exact .inr hq.symm
    ·exact .inl ⟨by omega,h2⟩
  ·rw [if_neg hz, z1f1 fo these q i]
   constructor
   ·exact fun ⟨h,h2⟩=>⟨by omega,h2⟩
   ·rintro ⟨h, h2⟩
    by_cases hq:q=i
    ·subst hq
     exact absurd (z47e.2 h2) hz
    ·exact⟨by omega,h2⟩
theorem z2c8(ta:List Nat)(q:Nat):∀i,(orF ta i).testBit q=true↔∃c,c<i∧(ta.getD c 0).testBit q=true
 |0=>by
  rw[orF,Nat.zero_testBit]
  simp
 |i+1=>by
  rw[orF,Nat.testBit_or,Bool.or_eq_true,z2c8 ta q i];constructor
  ·rintro (⟨c, h, h2⟩ | h)
   ·exact⟨c,by omega,h2⟩
   ·exact⟨i,by omega,h⟩
  ·rintro ⟨c, h, h2⟩
   by_cases hc:c=i
   ·subst hc
    exact .inr h2
   ·exact .inl ⟨c,by omega,h2⟩
theorem z459(fo:List Nat)(sm:Nat):∀(f live more:Nat),(if more=0 then 0 else 18446744073709551616 - live)<f→live<18446744073709551616→(more=0→z17f fo sm live=0)→z17f fo sm (z298 fo sm f live more)=0∧∀q,live.testBit q=true→(z298 fo sm f live more).testBit q=true
 |0,_,_,h,_,_=>by omega
 |f+1,live,more,h,hl,h0=>by
  rw[z298]
  by_cases hm:more=0
  ·rw [if_pos hm]
   exact⟨h0 hm,fun _ h=>h⟩
  ·rw [if_neg hm] at h
   rw[if_neg hm];have hup:z17f fo sm live≠0→live<live|||z17f fo sm live:=more_up;have hs:=zb1 hl (z174 fo sm live)
   obtain⟨i1,i2⟩:=z459 fo sm f (live|||z17f fo sm live) (z17f fo sm live) (by
    split
    ·omega
    ·have := hup (by assumption)
     omega) hs (fun e=>by rw[e,Nat.or_zero];exact e)
   exact⟨i1,fun q hq=>i2 q (by rw[Nat.testBit_or,hq];rfl)⟩
def z36d(N:Nt):Frag:=⟨N.empty,fun q=>N.first.testBit q=true,fun q=>N.last.testBit q=true,bitE N,z478 N⟩
def someB(N:Nt)(q:Nat):Prop:=∃c,c<256∧z478 N q c
section
variable {N:Nt}(k:NtOk N)
include k
theorem z45a:z17f N.fo (orF N.ta 256) N.live=0∧∀q,(N.last&&&orF N.ta 256).testBit q=true→N.live.testBit q=true:=by
 refine z459 N.fo (orF N.ta 256) 18446744073709551620 _ _ (by split<;>omega) (zaa k.l) fun e=>?_;rw[e];refine Nat.eq_of_testBit_eq fun i=>?_;rw[Nat.zero_testBit];cases hb:(z17f N.fo (orF N.ta 256) 0).testBit i with
 |false=>rfl
 |true=>
  unfold z17f at hb;rw[z24a,Nat.testBit_and,Bool.and_eq_true,Bool.and_eq_true,z1f1] at hb;obtain⟨⟨⟨_,r,_,h⟩,_⟩,_⟩:=hb;rw[Nat.zero_testBit] at h;cases h
theorem live_last{q:Nat}(h:N.last.testBit q=true)(hs:someB N q):N.live.testBit q=true:=by
 refine(z45a k).2 q ?_;rw[Nat.testBit_and,h,(z2c8 N.ta q 256).2 hs];rfl
theorem live_back{q r:Nat}(h:bitE N q r)(hr:N.live.testBit r=true)(hs:someB N q):N.live.testBit q=true:=by
 have hq:q<64:=by
  apply Nat.lt_of_not_le;intro hh;unfold bitE at h;rw[z376 (by rw[k.fl];exact hh),Nat.zero_testBit] at h;cases h
 cases hb:N.live.testBit q with
 |true=>rfl
 |false=>
  have e:=congrArg (fun z=>z.testBit q) (z45a k).1;unfold z17f at e;rw[z24a,Nat.testBit_and,(z1f1 _ _ _ _).2 ⟨hq,r,h,hr⟩,(z2c8 N.ta q 256).2 hs,hb,Nat.zero_testBit] at e
  cases e
theorem z313{q c:Nat}(hc:c<256):z478 N.trim q c↔z478 N q c∧N.live.testBit q=true:=by
 unfold z478;show ((z36f (cutG N.live) 0 N.ta).getD c 0).testBit q=true↔_;rw[z2d8 _ (by rw[k.tl];exact hc)];unfold cutG;rw[Nat.testBit_and,Bool.and_eq_true]
theorem z2a9{q q':Nat}{s:List Nat}(w:Walk (z36d N) q s q'):(∀c∈s,c<256)→N.last.testBit q'=true→someB N q→N.live.testBit q=true∧Walk (z36d N.trim) q s q':=by
 induction w with
 |nil=>exact fun _ hl hs=>⟨live_last k hl hs,.nil⟩
 | @cons q r q' c s e kk w ih=>
  intro hc hl hs;have h1:=hc c List.mem_cons_self;obtain⟨i1,i2⟩:=ih (fun c h=>hc c (List.mem_cons_of_mem _ h)) hl ⟨c,h1,kk⟩;exact⟨live_back k e i1 hs,Walk.cons (a:=z36d N.trim) e ((z313 k h1).2 ⟨kk,i1⟩) i2⟩
theorem walk_raw{q q':Nat}{s:List Nat}(w:Walk (z36d N.trim) q s q'):(∀c∈s,c<256)→Walk (z36d N) q s q':=by
 induction w with
 |nil=>exact fun _=>.nil
 | @cons q r q' c s e kk w ih=>exact fun hc=>Walk.cons (a:=z36d N) e ((z313 k (hc c List.mem_cons_self)).1 kk).1 (ih fun c h=>hc c (List.mem_cons_of_mem _ h))
theorem trim_fits{s:List Nat}(hc:∀c∈s,c<256):z437 (z36d N.trim) s↔z437 (z36d N) s:=by
 cases s with
 |nil=>exact .rfl
 |cons c s=>
  have h1:=hc c List.mem_cons_self;have h2:=fun c h=>hc c (List.mem_cons_of_mem _ h);constructor
  ·rintro ⟨q, q', g1, g2, g3, w⟩
   have g1':(N.first&&&N.live).testBit q=true:=g1;rw[Nat.testBit_and,Bool.and_eq_true] at g1';exact⟨q,q',g1'.1,((z313 k h1).1 g2).1,g3,walk_raw k w h2⟩
  ·rintro ⟨q, q', g1, g2, g3, w⟩
   obtain⟨i1,i2⟩:=z2a9 k w h2 g3 ⟨c,h1,g2⟩;refine⟨q,q',?_,(z313 k h1).2 ⟨g2,i1⟩,g3,i2⟩;show (N.first&&&N.live).testBit q=true;rw[Nat.testBit_and,Bool.and_eq_true];exact⟨g1,i1⟩
theorem z3fd(s:z11):∀{m:Nat},m<18446744073709551616→∀q,(z1ac N (true,m) s).2.testBit q=true↔∃q0,m.testBit q0=true∧Walk (z36d N) q0 (s.map UInt8.toNat) q:=by
 induction s with
 |nil=>
  intro m _ q;constructor
  ·exact fun h=>⟨q,h,.nil⟩
  ·rintro ⟨q0, h, w⟩
   cases w
   exact h
 |cons c s ih=>
  intro m hm q;have hs:=z194 k (true,m) c.toNat
  have he:stepN N (true,m) c.toNat=(true,N.behind m&&&N.ta.getD c.toNat 0):=by
   unfold stepN;rw[if_pos rfl]
  rw[he] at hs
  have hr:z1ac N (true,m) (c::s)=z1ac N (true,N.behind m&&&N.ta.getD c.toNat 0) s:=by
   rw[←he];unfold z1ac;rw[List.foldl_cons]
  rw[hr,ih hs q];constructor
  ·rintro ⟨r, h, w⟩
   rw[Nat.testBit_and,Bool.and_eq_true,z33b hm] at h;obtain⟨⟨q0,g1,g2⟩,g3⟩:=h;exact⟨q0,g1,Walk.cons (a:=z36d N) g2 g3 w⟩
  ·rintro ⟨q0, h, w⟩
   cases w with
   | @cons _ r _ _ _ e kk w=>
    refine⟨r,?_,w⟩;rw[Nat.testBit_and,Bool.and_eq_true,z33b hm];exact⟨⟨q0,h,e⟩,kk⟩
theorem z328(c:UInt8)(s:z11):z19f N (c::s)=true↔z437 (z36d N) ((c::s).map UInt8.toNat):=by
 have hs:N.first&&&N.ta.getD c.toNat 0<18446744073709551616:=zaa k.f
 have hb:(z1ac N (true,N.first&&&N.ta.getD c.toNat 0) s).1=true:=by
  have:∀(s:z11) (m:Nat),(z1ac N (true,m) s).1=true:=by
   intro s
   induction s with
   |nil=>exact fun _=>rfl
   |cons c s ih=>exact fun m=>ih _
  exact this s _
 show z277 N (z1ac N (true,N.first&&&N.ta.getD c.toNat 0) s)=true↔_;unfold z277;rw[if_pos hb,decide_eq_true_eq,z47e];constructor
 ·rintro ⟨q', h1, h2⟩
  obtain⟨q,g1,w⟩:=(z3fd k s hs q').1 h1;rw[Nat.testBit_and,Bool.and_eq_true] at g1;exact⟨q,q',g1.1,g1.2,h2,w⟩
 ·rintro ⟨q, q', g1, g2, g3, w⟩
  refine⟨q',(z3fd k s hs q').2 ⟨q,?_,w⟩,g3⟩;rw[Nat.testBit_and,Bool.and_eq_true];exact⟨g1,g2⟩
end
theorem z39a{n i:Nat}:(List.replicate n 0).getD i 0=0:=by
 rw[List.getD_eq_getElem?_getD,List.getElem?_replicate]
 split<;>rfl
theorem raw_rep{t:Nd}(h:(ze7 t 0).2≤64):Rep (z51 t zeroNet 0).1 (ze7 t 0).1∧(∀q r,bitE (z2c1 t) q r↔(ze7 t 0).1.E q r)∧(∀r c,c<256→(z478 (z2c1 t) r c↔(ze7 t 0).1.K r c)):=by
 have r:=z239 t z25a h;refine⟨r.p,fun q x=>(r.n.E q x).trans ⟨fun h=>h.elim (fun h=>?_) (fun h=>h),.inr⟩,fun x c hc=>(r.n.K x c hc).trans ⟨fun h=>h.elim (fun h=>?_) (fun h=>h),.inr⟩⟩
 ·unfold bitE at h
  rw[show zeroNet.fo=List.replicate 64 0 from rfl,z39a,Nat.zero_testBit] at h;cases h
 ·unfold z478 at h
  rw[show zeroNet.ta=List.replicate 256 0 from rfl,z39a,Nat.zero_testBit] at h;cases h
theorem raw_fits{t:Nd}(h:(ze7 t 0).2≤64){s:List Nat}(hc:∀c∈s,c<256):z437 (z36d (z2c1 t)) s↔z437 (ze7 t 0).1 s:=by
 obtain⟨r1,r2,r3⟩:=raw_rep h
 have w1:∀{q q':Nat} {s:List Nat},Walk (z36d (z2c1 t)) q s q'→(∀c∈s,c<256)→Walk (ze7 t 0).1 q s q':=by
  intro q q' s w
  induction w with
  |nil=>exact fun _=>.nil
  |cons e kk _ ih=>exact fun hc=>.cons ((r2 _ _).1 e) ((r3 _ _ (hc _ List.mem_cons_self)).1 kk) (ih fun c h=>hc c (List.mem_cons_of_mem _ h))
 have w2:∀{q q':Nat} {s:List Nat},Walk (ze7 t 0).1 q s q'→(∀c∈s,c<256)→Walk (z36d (z2c1 t)) q s q':=by
  intro q q' s w
  induction w with
  |nil=>exact fun _=>.nil
  |cons e kk _ ih=>exact fun hc=>Walk.cons (a:=z36d (z2c1 t)) ((r2 _ _).2 e) ((r3 _ _ (hc _ List.mem_cons_self)).2 kk) (ih fun c h=>hc c (List.mem_cons_of_mem _ h))
 cases s with
 |nil=>exact .rfl
 |cons c s=>
  have h1:=hc c List.mem_cons_self;have h2:=fun c h=>hc c (List.mem_cons_of_mem _ h);constructor
  ·rintro ⟨q, q', g1, g2, g3, w⟩
   exact⟨q,q',(r1.F q).1 g1,(r3 _ _ h1).1 g2,(r1.L q').1 g3,w1 w h2⟩
  ·rintro ⟨q, q', g1, g2, g3, w⟩
   exact⟨q,q',(r1.F q).2 g1,(r3 _ _ h1).2 g2,(r1.L q').2 g3,w2 w h2⟩
theorem z272{t:Nd}(h:(ze7 t 0).2≤64)(s:z11):z19f (z7f t) s=true↔z1a5 t (s.map UInt8.toNat):=by
 have fr:=z24d t 0
 cases s with
 |nil=>
  have e:z19f (z7f t) []=(ze7 t 0).1.e:=(raw_rep h).1.e;rw[e];exact fr.e
 |cons c s=>
  have hc:∀x∈(c::s).map UInt8.toNat,x<256:=fun x hx=>by
   obtain⟨y,_,rfl⟩:=List.mem_map.1 hx;exact y.toNat_lt
  rw[z328 (z2a1 t) c s];exact(trim_fits (z1ae t) hc).trans ((raw_fits h hc).trans fr.f)
open Go.RowKit Abs
theorem z374(i:Nat):inW zeroW i=false:=by
 unfold inW zeroW
 have:([0,0,0,0]:List Nat).getD (i/64) 0=0:=by
  rw[List.getD_eq_getElem?_getD]
  match i/64 with
  |0=>rfl
  |1=>rfl
  |2=>rfl
  |3=>rfl
  |_+4=>rfl
 rw[this,Nat.zero_testBit]
theorem inW_add{w:List Nat}(hw:WordsOk w){c i:Nat}(hc:c<256):inW (z485 w c) i=(inW w i||decide (i=c)):=by
 unfold inW z485;have hl:=hw.len
 by_cases h:c/64=i/64
 ·rw [← h, List.getD_eq_getElem?_getD, List.getElem?_set_self (by omega), Option.getD_some, Nat.testBit_or, Nat.testBit_two_pow]
  congr 1
  refine decide_eq_decide.2 ⟨fun h2=>by omega,fun h2=>by rw[h2]⟩
 ·rw[List.getD_eq_getElem?_getD,List.getElem?_set_ne h, ←List.getD_eq_getElem?_getD,decide_eq_false (by intro h2;exact h (by rw[h2])),Bool.or_false]
mutual
def z337:Nd→Nat
 | .mk op _ ks=>if op=2 then 1 else z278 ks
def z278:List Nd→Nat
 |[]=>0
 |k::ks=>z337 k+z278 ks
end
mutual
theorem z2a4:∀(t:Nd) (u:Nat),(ze7 t u).2≤u+z337 t
 | .mk op w ks,u=>by
  rw[ze7,z337];have h1:=z476 ks noF u;have h2:=z484 ks badF u;have h3:=headG_cnt ks u
  by_cases e2:op=2
  ·rw [if_pos e2, if_pos e2]
   exact Nat.le_refl _
  rw[if_neg e2,if_neg e2]
  split
  ·exact h1
  split
  ·exact h2
  split
  ·exact h3
  split
  ·exact h3
  split
  ·exact h3
  ·exact Nat.le_add_right _ _
theorem z476:∀(ks:List Nd) (a:Frag) (u:Nat),(catG ks a u).2≤u+z278 ks
 |[],_,_=>Nat.le_refl _
 |k::ks,a,u=>by
  have h1:=z2a4 k u;have h2:=z476 ks (z477 a (ze7 k u).1) (ze7 k u).2;rw[catG,z278];omega
theorem z484:∀(ks:List Nd) (a:Frag) (u:Nat),(altG ks a u).2≤u+z278 ks
 |[],_,_=>Nat.le_refl _
 |k::ks,a,u=>by
  have h1:=z2a4 k u;have h2:=z484 ks (altF a (ze7 k u).1) (ze7 k u).2;rw[altG,z278];omega
theorem headG_cnt:∀(ks:List Nd) (u:Nat),(z1e9 ks u).2≤u+z278 ks
 |[],_=>Nat.le_refl _
 |k::ks,u=>by
  have h1:=z2a4 k u;rw[z1e9,z278];omega
end
theorem z2e0{op:Nat}(ho:op≠2):∀l:List Nd,z337 (z1a0 op l)≤z278 l
 |[]=>by
  show (if 1=2 then 1 else z278 [])≤_;exact Nat.le_refl _
 |[t]=>Nat.le_add_right _ _
 |a::b::l=>by
  show (if op=2 then 1 else z278 (a::b::l))≤_;rw[if_neg ho];exact Nat.le_refl _
section
variable {a u:z11}{k:Nat}
structure LiesIn(a u:z11)(k:Nat):Prop where
 same:∀i,i<a.length→at? u (k+i)=at? a i
 stop:at? u (k+a.length)=some 41
theorem LiesIn.some(s:LiesIn a u k){i c:Nat}(h:at? a i=some c):at? u (k+i)=some c:=by
 obtain⟨hp,_⟩:=at?_some h;rw[s.same i hp,h]
theorem LiesIn.ne(s:LiesIn a u k){i c:Nat}(hi:i≤a.length)(hc:c≠41)(h:at? a i≠Option.some c):at? u (k+i)≠Option.some c:=by
 rcases Nat.lt_or_ge i a.length with h1|h1
 ·rw [s.same i h1]
  exact h
 ·obtain rfl : i = a.length := by omega
  rw[s.stop];intro hh;cases hh;exact hc rfl
theorem z455(s:LiesIn a u k){i c j:Nat}(h:z1cb a i=.ok (c,j)):z1cb u (k+i)=.ok (c,k+j):=by
 unfold z1cb at h ⊢
 split at h
 ·cases h
 ·rename_i c' hc
  rw[s.some hc];dsimp only
  split at h
  ·rename_i h92
   rw[if_pos h92]
   split at h
   ·cases h
   ·rename_i e he
    have:=s.some he;rw[←Nat.add_assoc] at this;rw[this];cases h;rfl
  ·rename_i h92
   rw[if_neg h92]
   split at h
   ·cases h
   ·rename_i hx
    rw[if_neg hx];cases h;rfl
theorem z325(s:LiesIn a u k){w w':List Nat}{i j:Nat}(h:z94 a w i=.ok (w',j)):z94 u w (k+i)=.ok (w',k+j):=by
 unfold z94 at h ⊢
 split at h
 ·cases h
 ·rename_i c j' h1
  obtain⟨_,_,hj⟩:=z13e h1;rw[z455 s h1];dsimp only
  split at h
  ·rename_i h45
   rw[if_pos (s.some h45)]
   split at h
   ·cases h
   ·rename_i e k' h4
    have:=z455 s h4;rw[←Nat.add_assoc] at this;rw[this];dsimp only
    split at h
    ·cases h
    ·rename_i hlt
     rw[if_neg hlt];cases h;rfl
  ·rename_i h45
   rw[if_neg (s.ne hj (by decide) h45)];cases h;rfl
theorem loopP_in(s:LiesIn a u k){w:List Nat}{j:Nat}{r:Except Nat (List Nat×Nat)}(x:LoopP a w j r):j≤a.length→∀w' j',r=.ok (w',j')→LoopP u w (k+j) (.ok (w',k+j')):=by
 induction x with
 |done n=>
  intro hj w' j' e
  cases e
  exact .done (s.some n)
 |bad n h=>
  intro hj w' j' e
  cases e
 |more n h m ih=>
  intro hj w' j' e;obtain⟨b1,b2⟩:=z2d6 h;exact .more (s.ne hj (by decide) n) (z325 s h) (ih b2 w' j' e)
theorem setB_in(s:LiesIn a u k){i:Nat}(hi:i≤a.length):setB u (k+i)=k+setB a i:=by
 unfold setB
 by_cases h94:at? a i=some 94
 ·rw [if_pos h94, if_pos (s.some h94)]
  rfl
 ·rw[if_neg h94,if_neg (s.ne hi (by decide) h94)]
theorem setP_in(s:LiesIn a u k){i j:Nat}{w:List Nat}(x:SetP a i (.ok (w,j)))(hi:i≤a.length):SetP u (k+i) (.ok (w,k+j)):=by
 obtain⟨s1,s2⟩:=z29e hi
 generalize hr:Except.ok (w,j)=r at x
 cases x with
 |bad h=>cases hr
 |set h m=>
  rename_i w' j' r;obtain⟨b1,b2⟩:=z2d6 h
  cases r with
  |error e'=>cases hr
  |ok wj=>
   obtain⟨w2,j2⟩:=wj;cases hr;have h2:=z325 s h;rw[←setB_in s hi] at h2;have h3:=SetP.set h2 (loopP_in s m b2 _ _ rfl);have h4:(at? u (k+i)=some 94)↔(at? a i=some 94):=⟨fun hh=>Classical.byContradiction fun hn=>s.ne hi (by decide) hn hh,fun hh=>s.some hh⟩;unfold z21d at h3;simp only[h4] at h3;exact h3
end
section
variable {a u:z11}{k:Nat}
theorem stops_in(s:LiesIn a u k){i:Nat}(hi:i≤a.length)(h:z16b a i):z16b u (k+i):=by
 rcases h with h|h|h
 ·have := at?_none h hi
  subst this;exact .inr (.inr s.stop)
 ·exact .inr (.inl (s.some h))
 ·exact .inr (.inr (s.some h))
theorem nstops_in(s:LiesIn a u k){i:Nat}(h:¬z16b a i):¬z16b u (k+i):=by
 have hlt:i<a.length:=by
  rcases Nat.lt_or_ge i a.length with h1|h1
  ·exact h1
  ·exact absurd (.inl (at?_ge h1)) h
 unfold z16b at h ⊢;rw[s.same i hlt];exact h
theorem z2b7(s:LiesIn a u k){j:Nat}(hj:j≤a.length):signAt u (k+j)=signAt a j:=by
 unfold signAt
 rcases Nat.lt_or_ge j a.length with h1|h1
 ·rw[s.same j h1]
 ·obtain rfl : j = a.length := by omega
  rw[s.stop,at?_ge (Nat.le_refl _)];rfl
mutual
theorem altP_in(s:LiesIn a u k):∀{l:List Nd} {i:Nat} {r:Res},AltP a l i r→∀t j,r=.ok (t,j)→i≤a.length→AltP u l (k+i) (.ok (t,k+j))
 |_,_,_,.bad h,t,j,e,hi=>by cases e
 |_,_,_,.last h n,t,j,e,hi=>by
  obtain⟨_,b2⟩:=z10b h hi;have h1:=z3ff s h _ _ rfl hi
  cases e
  exact .last h1 (s.ne b2 (by decide) n)
 |_,_,_,.more h n m,t,j,e,hi=>by
  obtain⟨hp,_⟩:=at?_some n;have h1:=z3ff s h _ _ rfl hi;have h2:=altP_in s m t j e (by omega);rw[←Nat.add_assoc] at h2;exact .more h1 (s.some n) h2
termination_by structural _ _ _ x=>x
theorem z3ff(s:LiesIn a u k):∀{l:List Nd} {i:Nat} {r:Res},RowP a l i r→∀t j,r=.ok (t,j)→i≤a.length→RowP u l (k+i) (.ok (t,k+j))
 |_,_,_,.stop h,t,j,e,hi=>by
  cases e
  exact .stop (stops_in s hi h)
 |_,_,_,.bad _ h,t,j,e,hi=>by cases e
 |_,_,_,.more n h m,t,j,e,hi=>by
  obtain⟨_,b2⟩:=z19a h hi;exact .more (nstops_in s n) (partP_in s h _ _ rfl hi) (z3ff s m t j e b2)
termination_by structural _ _ _ x=>x
theorem partP_in(s:LiesIn a u k):∀{i:Nat} {r:Res},PartP a i r→∀t j,r=.ok (t,j)→i≤a.length→PartP u (k+i) (.ok (t,k+j))
 |_,_,.bad h,t,j,e,hi=>by cases e
 |_,_,.bare h n,t,j,e,hi=>by
  obtain⟨_,b2⟩:=z124 h hi;have h1:=z47c s h _ _ rfl hi
  cases e
  exact .bare h1 (by rw[z2b7 s b2];exact n)
 |_,_,.sign h n,t,j,e,hi=>by
  obtain⟨_,b2⟩:=z124 h hi;have h1:=z47c s h _ _ rfl hi
  cases e
  have h2:=PartP.sign h1 (by rw[z2b7 s b2];exact n);rw[z2b7 s b2] at h2;exact h2
termination_by structural _ _ x=>x
theorem z47c(s:LiesIn a u k):∀{i:Nat} {r:Res},AtomP a i r→∀t j,r=.ok (t,j)→i≤a.length→AtomP u (k+i) (.ok (t,k+j))
 |_,_,.none _,t,j,e,hi=>by cases e
 |_,_,.open_bad h m,t,j,e,hi=>by cases e
 |_,_,.open_end h m _,t,j,e,hi=>by cases e
 |_,_,.group h m n,t,j,e,hi=>by
  obtain⟨hp,_⟩:=at?_some h;have h1:=altP_in s m _ _ rfl (by omega);rw[←Nat.add_assoc] at h1
  cases e
  exact .group (s.some h) h1 (s.some n)
 |_,_,.any h,t,j,e,hi=>by
  cases e
  exact .any (s.some h)
 |_,_,.set_bad h m,t,j,e,hi=>by cases e
 |_,_,.set h m,t,j,e,hi=>by
  obtain⟨hp,_⟩:=at?_some h;have h1:=setP_in s m (by omega);rw[←Nat.add_assoc] at h1
  cases e
  exact .set (s.some h) h1
 |_,_,.sl_end h _,t,j,e,hi=>by cases e
 |_,_,.sl h n,t,j,e,hi=>by
  have h1:=s.some n;rw[←Nat.add_assoc] at h1
  cases e
  exact .sl (s.some h) h1
 |_,_,.bad h _,t,j,e,hi=>by cases e
 |_,_,.one h b n,t,j,e,hi=>by
  cases e
  exact .one (s.some h) b n
termination_by structural _ _ x=>x
end
end
theorem z1ec:∀(l:List Nd) (t:Nd),z278 (l++[t])=z278 l+z337 t
 |[],t=>by
  show z337 t+z278 []=z278 []+z337 t;exact Nat.add_comm _ _
 |k::l,t=>by
  rw[List.cons_append,z278,z278,z1ec l t,Nat.add_assoc]
theorem over_cnt{op:Nat}(ho:op≠2)(t:Nd):z337 (z30b op [t])=z337 t:=by
 show (if op=2 then 1 else z278 [t])=_;rw[if_neg ho];exact Nat.add_zero _
theorem sign_ne2(u:z11)(j:Nat):signAt u j≠2:=by
 unfold signAt
 split
 ·unfold z318
  split<;>decide
 ·decide
section
variable {a:z11}
mutual
theorem z394:∀{l:List Nd} {i:Nat} {r:Res},AltP a l i r→∀t j,r=.ok (t,j)→i≤a.length→z337 t≤z278 l+(j - i)
 |_,_,_,.bad _,_,_,e,_=>by cases e
 |l,_,_,.last h _,t,j,e,hi=>by
  cases e
  have h1:=z351 h _ _ rfl hi;refine Nat.le_trans (z2e0 (by decide) _) ?_;rw[z1ec];rw[z278] at h1;omega
 |_,_,_,.more h n m,t,j,e,hi=>by
  have h1:=z351 h _ _ rfl hi;have b1:=z10b h hi;have hn:=at?_some n;obtain⟨hn,_⟩:=hn;have h3:=z394 m t j e (by omega);have b2:=z140 m (by omega);subst e;rw[z1ec] at h3;rw[z278] at h1;have b1':_≤_∧_≤_:=b1;have b2':_≤_∧_≤_:=b2;omega
termination_by structural _ _ _ x=>x
theorem z351:∀{l:List Nd} {i:Nat} {r:Res},RowP a l i r→∀t j,r=.ok (t,j)→i≤a.length→z337 t≤z278 l+(j - i)
 |l,_,_,.stop _,t,j,e,_=>by
  cases e
  exact Nat.le_trans (z2e0 (by decide) l) (Nat.le_add_right _ _)
 |_,_,_,.bad _ _,_,_,e,_=>by cases e
 |_,_,_,.more _ h m,t,j,e,hi=>by
  have h1:=partP_cnt h _ _ rfl hi;have b1:=z19a h hi;have b1':_≤_∧_≤_:=⟨Nat.le_of_lt b1.1,b1.2⟩;have h3:=z351 m t j e b1'.2;have b2:=z10b m b1'.2;subst e;rw[z1ec] at h3;have b2':_≤_∧_≤_:=b2;omega
termination_by structural _ _ _ x=>x
theorem partP_cnt:∀{i:Nat} {r:Res},PartP a i r→∀t j,r=.ok (t,j)→i≤a.length→z337 t≤j - i
 |_,_,.bad _,_,_,e,_=>by cases e
 |_,_,.bare h _,t,j,e,hi=>z3e8 h t j e hi
 |_,_,.sign h _,t,j,e,hi=>by
  cases e
  rw[over_cnt (sign_ne2 _ _)];have:=z3e8 h _ _ rfl hi;omega
termination_by structural _ _ x=>x
theorem z3e8:∀{i:Nat} {r:Res},AtomP a i r→∀t j,r=.ok (t,j)→i≤a.length→z337 t≤j - i
 |_,_,.none _,_,_,e,_=>by cases e
 |_,_,.open_bad _ _,_,_,e,_=>by cases e
 |_,_,.open_end _ _ _,_,_,e,_=>by cases e
 |_,_,.group h m _,t,j,e,hi=>by
  cases e
  obtain⟨hn,_⟩:=at?_some h;have h1:=z394 m _ _ rfl (by omega);rw[z278] at h1;omega
 |i,_,.any _,t,j,e,_=>by
  cases e
  show 1≤i+1 - i;omega
 |_,_,.set_bad _ _,_,_,e,_=>by cases e
 |i,_,.set h m,t,j,e,hi=>by
  cases e
  obtain⟨hn,_⟩:=at?_some h;have:=z34f m (by omega);show 1≤_ - i;omega
 |_,_,.sl_end _ _,_,_,e,_=>by cases e
 |i,_,.sl _ _,t,j,e,_=>by
  cases e
  show 1≤i+2 - i;omega
 |_,_,.bad _ _,_,_,e,_=>by cases e
 |i,_,.one _ _ _,t,j,e,_=>by
  cases e
  show 1≤i+1 - i;omega
termination_by structural _ _ x=>x
end
end
def exT:Nd:=.mk 3 zeroW [.mk 6 zeroW [z294 97],z294 98]
abbrev exU:z11:=[97,43,98]
set_option maxRecDepth 100000 in
theorem ex_dead:z22a (z7f exT) (stepN (z7f exT) (false,0) 98)=true:=by kernel_rfl
set_option maxRecDepth 100000 in
theorem ex_dead0:z22a (z7f exT) (false,0)=false:=by kernel_rfl
set_option maxRecDepth 100000 in
theorem ex_done0:z277 (z7f exT) (false,0)=false:=by kernel_rfl
set_option maxRecDepth 100000 in
theorem ex_aab:z19f (z7f exT) [97,97,98]=true:=by kernel_rfl
set_option maxRecDepth 100000 in
theorem ex_b:z19f (z7f exT) [98]=false:=by kernel_rfl
theorem exStop0:¬z16b exU 0:=by unfold z16b;decide
theorem exStop2:¬z16b exU 2:=by unfold z16b;decide
theorem ex_part0:PartP exU 0 (.ok (.mk 6 zeroW [z294 97],2)):=PartP.sign (i:=0) (j:=1) (t:=z294 97) (.one (c:=97) rfl (by unfold zd8;decide) (by decide)) (by decide)
theorem ex_part2:PartP exU 2 (.ok (z294 98,3)):=PartP.bare (.one (c:=98) rfl (by unfold zd8;decide) (by decide)) rfl
theorem ex_row:RowP exU [] 0 (.ok (exT,3)):=.more exStop0 ex_part0 (.more exStop2 ex_part2 (RowP.stop (l:=[.mk 6 zeroW [z294 97],z294 98]) (i:=3) (.inl rfl)))
theorem ex_alt:AltP exU [] 0 (.ok (exT,3)):=AltP.last (l:=[]) (t:=exT) ex_row (by decide)
theorem ex_tree{r:Except Nat Nd}(h:TreeP exU 3 r):r=.ok exT:=by
 generalize hk:(3:Int)=k at h
 cases h with
 |lit a=>cases hk
 |glob a=>cases hk
 |re_bad a=>cases ze2 a ex_alt
 |re_end a n=>
  cases ze2 a ex_alt
  exact absurd rfl n
 |re a=>
  cases ze2 a ex_alt
  rfl
theorem of_ex{n d:Nat}{h:AHeap}(hn:18446744073709551620<n)(hd:1000≤d)(hx:z7a z17 h.ex=false):∃nb h',world n (d+1) 12 [.agg [.int .i64 3,z12 exU]] h=some (.ret (.tup [.ptr nb 0,.int .i64 0]),h')∧Abs.Mem [] h h' [(nb,TNet,netC (z7f exT))]:=by
 obtain⟨D,rfl⟩:∃D,d=D+3:=⟨d - 3,by omega⟩;obtain⟨r,r1,_,r3⟩:=(z314 (u:=exU) (by decide) (.inr (.inr rfl))).2 (by decide)
 obtain rfl:=ex_tree r1
 exact of_ok (z25e r1) (by have:=z1a8 r1;have:exU.length=3:=rfl;omega) (by have:=z1a8 r1;have:exU.length=3:=rfl;omega) hn (fun h hx=>r3 (by omega) (by omega) hx) hx
theorem works_w{n d:Nat}{h:AHeap}(hn:18446744073709551620<n)(hd:1000≤d)(hT:HasTz h)(hx:z7a z17 h.ex=false):world n (d+2) 11 [] h=some (.ret (.bool true),h):=by
 apply Wp.eq;rw[z346];refine Wp.gc ?_
 suffices hK:Wp (zfc (world n (d+1)) n h) fun r h'=>r=.ret (.bool true)∧Tch [] h h' from hK.mono fun r h' ⟨e,t⟩=>⟨t.above,by rw[e];rfl,e,rfl⟩
 obtain⟨D,rfl⟩:∃D,d=D+3:=⟨d - 3,by omega⟩;unfold zfc;obtain⟨nb,h1,e1,M1⟩:=of_ex hn hd hx;have hN:=z2a1 exT;refine Wp.callN e1 ?_
 repeat(first|(with_reducible first|refine y5 (fun _ _=>?_)|refine Wp.lett ?_|(apply Wp.obind;first|exact z5 _ _|exact z6 _|exact za0 _ _|exact z9f _ _ _))|((with_reducible refine y7 ?_ ?_);first|(with_reducible rfl)|((with_reducible apply zc9);omega))|(with_reducible first|(apply Wp.outK;exact eqNet _ _ _)|refine yd (by assumption) ?_))
 obtain⟨h2,e2,M2⟩:=begin_m (n:=n) (d:=D+3) (nb:=nb) M1;refine Wp.callN e2 ?_;have d0:=done_w (n:=n) (d:=D+2) hN (show ((false,0):Bool×Nat).2 <_ by decide) M2.at0.1 M2.at1.1;rw[ex_done0] at d0;have d1:=z470 (n:=n) (d:=D+2) M2.at0.1 M2.at1.1;rw[ex_dead0] at d1
 repeat(with_reducible first|refine y5 (fun _ _=>?_)|(apply Wp.obind;exact z6 _)|(refine y7 ?_ ?_;rfl)|(apply Wp.callN;first|exact d0|exact d1)|(apply Wp.outK;exact eqRun _ _ _)|refine yd (by assumption) ?_)
 have hne:h1.next≠nb:=fun e=>by
  have:=M1.at0.2.1;omega
 obtain⟨h3,e3,k3,t3⟩:=step_r (n:=n) (d:=D+1) (c:=98) (hT.tch M2.tch (by simp)) hN (show ((false,0):Bool×Nat).2 <_ by decide) (by omega) hne (by decide) M2.at0.1 M2.at1.1 M2.at1.2.1;refine Wp.callN e3 ?_;have M3:=y1b (xs:=[]) M2 t3 k3;simp only[List.nil_append] at M3;have d2:=z470 (n:=n) (d:=D+2) M3.at0.1 M3.at1.1;rw[ex_dead] at d2
 repeat(with_reducible first|refine y5 (fun _ _=>?_)|(apply Wp.obind;exact z6 _)|(refine y8 ?_ ?_;rfl)|(apply Wp.callN;exact d2))
 obtain⟨h4,e4,t4⟩:=match_r (n:=n) (d:=D) (s:=[97,97,98]) (hT.tch M3.tch (by simp)) hN (by omega) (by decide) M3.at1.1 M3.at1.2.1;rw[ex_aab] at e4;refine Wp.callN e4 ?_;have M4:=M3.keep t4
 repeat(with_reducible first|refine y5 (fun _ _=>?_)|(apply Wp.obind;exact z6 _)|(refine y8 ?_ ?_;rfl)|refine yd (by assumption) ?_)
 obtain⟨h5,e5,t5⟩:=match_r (n:=n) (d:=D) (s:=[98]) (hT.tch M4.tch (by simp)) hN (by omega) (by decide) M4.at1.1 M4.at1.2.1;rw[ex_b] at e5;refine Wp.callN e5 ?_
 repeat(with_reducible first|refine Wp.lett ?_|(apply Wp.obind;exact z6 _)|refine yd (by assumption) ?_)
 exact Wp.ret ⟨rfl,(M4.keep t5).tch⟩
set_option maxRecDepth 100000 in
theorem pat_of{N:Nat}{h:AHeap}{x:AV}(hp:ArgP Tryd.prog N h 12 23 x):∃(k:Int) (u:z11),x=.agg [.int .i64 k,z12 u]∧u.length≤reachBytes:=by
 obtain⟨l,rfl,hpl⟩:=hp.agg (by kernel_rfl);obtain⟨y1,y2,rfl,p1,p2⟩:=hpl.struct2 Tryd.underlying23;obtain⟨k,rfl,_⟩:=p1.int Tryd.underlying3;obtain⟨u,rfl,hu⟩:=p2.str Tryd.underlying9;exact⟨k,u,rfl,hu⟩
abbrev tzI64:List Int:=[0,1,56,2,57,49,28,3,61,58,42,50,38,29,17,4,62,47,59,36,45,43,51,22,53,39,33,30,24,18,12,5,63,55,48,27,60,41,37,16,46,35,44,21,52,32,23,11,54,26,40,15,34,20,31,10,25,14,19,9,13,8,7,6]
theorem tzC_ints:tzC=tzI64.map fun z=>AV.int .u8 z:=by kernel_rfl
noncomputable def tzG:Tabs:=[(0,tzI64.map fun z=>AV.int .u8 z)]
theorem tz_of{h:AHeap}{X:List Nat}{G:Nat}(hG:0<G)(k:Keeps (z27d tzG X G) h):HasTz h:=
 ⟨k.2.2 _ _ (by show (z260 tzG).get _=_;unfold tzG z260;rw[y22,tzC_ints]),Nat.lt_of_lt_of_le hG k.1⟩
open Go.RowKit Abs
section
variable {a b:z11}{x y:Nd}
theorem re_cnt(h:AltP a [] 0 (.ok (x,a.length))):z337 x≤a.length:=by
 have:=z394 h _ _ rfl (Nat.zero_le _);rw[z278] at this;omega
theorem z43d{t:Nd}(h:z337 t≤64):(ze7 t 0).2≤64:=by
 have:=z2a4 t 0;omega
end
abbrev TBo:Nat:=4
theorem Plus.snoc{P:List Nat→Prop}{a b:List Nat}(h:Plus P a)(hb:P b):Plus P (a++b):=by
 induction h with
 |one h=>exact .more h (.one hb)
 |more h _ ih=>
  rw[List.append_assoc];exact .more h ih
theorem Plus.last{P:List Nat→Prop}{s:List Nat}(h:Plus P s):s≠[]→∃s1 s2,s=s1++s2∧P s2∧s2≠[]∧(s1=[]∨Plus P s1):=by
 induction h with
 | @one s h=>exact fun hn=>⟨[],s,rfl,h,hn,.inl rfl⟩
 | @more s t h m ih=>
  intro hn
  by_cases ht:t=[]
  ·subst ht
   rw[List.append_nil] at hn ⊢;exact⟨[],s,rfl,h,hn,.inl rfl⟩
  ·obtain ⟨t1, t2, rfl, h2, hn2, h3⟩ := ih ht
   refine⟨s++t1,t2,(List.append_assoc _ _ _).symm,h2,hn2,.inr ?_⟩
   rcases h3 with rfl|h3
   ·rw [List.append_nil]
    exact .one h
   ·exact .more h h3
section
variable {x:Nd}{s:z11}
theorem z92{a b:Bool}(h:a=true↔b=true):a=b:=by
 cases a<;>cases b<;>simp_all
end
noncomputable def bl(m:Nat)(f:Nat→Bool):List AV:=(List.range m).map fun j=>.bool (f j)
theorem z1f0(m:Nat)(f:Nat→Bool):(bl m f).length=m:=by simp[bl]
theorem bl_one(m:Nat)(f:Nat→Bool):(bl m f).all AV.one=true:=by
 simp only[bl,List.all_map,List.all_eq_true];intro x _;rfl
theorem z3e4{m j:Nat}(h:j<m)(f:Nat→Bool):(bl m f)[j]? =some (.bool (f j)):=by
 unfold bl;rw[List.getElem?_map,List.getElem?_range h];rfl
theorem bl_set{m i:Nat}{f g:Nat→Bool}{b:Bool}(hb:g i=b)(hf:∀j,j≠i→f j=g j):(bl m f).set i (.bool b)=bl m g:=by
 refine List.ext_getElem? fun j=>?_;rw[List.getElem?_set]
 by_cases hj:i=j
 ·subst hj
  by_cases hm:i<m
  ·rw[if_pos rfl,if_pos (by rw[z1f0];exact hm),z3e4 hm,hb]
  ·rw[if_pos rfl,if_neg (by rw[z1f0];exact hm),List.getElem?_eq_none (by rw[z1f0];omega)]
 ·rw [if_neg hj]
  unfold bl;rw[List.getElem?_map,List.getElem?_map];cases hr:(List.range m)[j]? with
  |none=>rfl
  |some y=>
   obtain⟨_,rfl⟩:=List.getElem?_eq_some_iff.1 hr;rw[List.getElem_range,Option.map_some,Option.map_some,hf j (fun h=>hj h.symm)]
theorem bl_ext{m:Nat}{f g:Nat→Bool}(h:∀j,f j=g j):bl m f=bl m g:=by rw[show f=g from funext h]
theorem bl_none(m:Nat):List.replicate m (AV.bool false)=bl m (fun _=>false):=by
 refine List.ext_getElem? fun j=>?_
 by_cases hj:j<m
 ·rw[z3e4 hj,List.getElem?_replicate,if_pos hj]
 ·rw[List.getElem?_eq_none (by rw[List.length_replicate];omega),List.getElem?_eq_none (by rw[z1f0];omega)]
theorem z45f{b m i:Nat}(h:i<m):ze8 1 (.sl b 0 m 1) (i:Int)=some (.ptr b i):=by
 have e:Nat.blt i m=true:=by simpa using h
 show (match Nat.blt i m with|true=>some (AV.ptr b (0+i*1))|false=>none)=_;rw[e,Nat.zero_add,Nat.mul_one]
open Go.RowKit Abs
set_option maxHeartbeats 4000000
set_option maxRecDepth 20000
noncomputable def z13c(call:zf)(t1:z11)(t2:AV)(v3:AV)(k86:AV→AHeap→R)(self:AV→Int→AHeap→R)(t7_90:AV)(t10:Int)(h_91:AHeap):R:=obind (z58 5 v3) fun t63=>obind (z9 h_91 t63) fun v64=>obind (z249 v64) fun t65=>lett (decide (t10<t65)) fun (t66:Bool)=>ifB t66 (obind (z58 5 v3) fun t70=>obind (z9 h_91 t70) fun v71=>obind (ze8 6 v71 t10) fun t73=>obind (z15 h_91 6 t73) fun t74=>callN (call 31 [.agg t74,z12 t1,t2] h_91) fun r77 h_104=>callN (call 48 [t7_90,r77] h_104) fun r78 h_106=>lett (IntKind.i64.wrap (t10+1)) fun (t68:Int)=>self r78 t68 h_106) (k86 t7_90 h_91)
noncomputable def z111(call:zf)(t1:z11)(t2:AV)(v3:AV)(k86:AV→AHeap→R):Nat→AV→Int→AHeap→R:=zbd (fun _ _ _=>none) (z13c call t1 t2 v3 k86)
theorem z1da(call:zf)(t1:z11)(t2:AV)(v3:AV)(k86:AV→AHeap→R)(m:Nat):z111 call t1 t2 v3 k86 (m+1)=z13c call t1 t2 v3 k86 (z111 call t1 t2 v3 k86 m):=rfl
noncomputable def z13d(call:zf)(t1:z11)(v3:AV)(k58:AV→AHeap→R)(self:AV→Int→AHeap→R)(t7_62:AV)(t9:Int)(h_63:AHeap):R:=obind (z58 5 v3) fun t46=>obind (z9 h_63 t46) fun v47=>obind (z249 v47) fun t48=>lett (decide (t9<t48)) fun (t49:Bool)=>ifB t49 (obind (z58 5 v3) fun t52=>obind (z9 h_63 t52) fun v53=>obind (ze8 6 v53 t9) fun t55=>obind (z15 h_63 6 t55) fun t56=>callN (call 31 [.agg t56,z12 t1,t7_62] h_63) fun r59 h_76=>lett (IntKind.i64.wrap (t9+1)) fun (t51:Int)=>self r59 t51 h_76) (k58 t7_62 h_63)
noncomputable def z112(call:zf)(t1:z11)(v3:AV)(k58:AV→AHeap→R):Nat→AV→Int→AHeap→R:=zbd (fun _ _ _=>none) (z13d call t1 v3 k58)
theorem z1db(call:zf)(t1:z11)(v3:AV)(k58:AV→AHeap→R)(m:Nat):z112 call t1 v3 k58 (m+1)=z13d call t1 v3 k58 (z112 call t1 v3 k58 m):=rfl
noncomputable def zee(call:zf)(t1:z11)(t2:AV)(v3:AV)(v14:AV)(k21:AHeap→R)(self:Int→AHeap→R)(t8:Int)(h_24:AHeap):R:=lett (decide (t8<(z7b t1))) fun (t23:Bool)=>ifB t23 (lett (fun (h_31:AHeap)=>lett (IntKind.i64.wrap (t8+1)) fun (t25:Int)=>self t25 h_31) fun k30=>lett (IntKind.i64.wrap (t8+1)) fun (t28:Int)=>obind (ze8 1 t2 t8) fun t31=>obind (z9 h_24 t31) fun v32=>obind (z1a v32) fun t32=>ifB t32 (obind (z58 1 v3) fun t34=>obind (z15 h_24 4 t34) fun t35=>obind (z1a2 t1 t8) fun t38=>callN (call 47 [.agg t35,.int .u8 t38] h_24) fun r39 h_40=>obind (z1a r39) fun t39=>obind (ze8 1 v14 t28) fun t41=>obind (z16 h_40 1 [.bool t39] t41) fun h_44=>k30 h_44) (obind (ze8 1 v14 t28) fun t41_46=>obind (z16 h_24 1 [.bool false] t41_46) fun h_48=>k30 h_48)) (k21 h_24)
noncomputable def z113(call:zf)(t1:z11)(t2:AV)(v3:AV)(v14:AV)(k21:AHeap→R):Nat→Int→AHeap→R:=zbd (fun _ _=>none) (zee call t1 t2 v3 v14 k21)
theorem z16d(call:zf)(t1:z11)(t2:AV)(v3:AV)(v14:AV)(k21:AHeap→R)(m:Nat):z113 call t1 t2 v3 v14 k21 (m+1)=zee call t1 t2 v3 v14 k21 (z113 call t1 t2 v3 v14 k21 m):=rfl
noncomputable def z162(call:zf)(n:Nat)(t0:List AV)(t1:z11)(t2:AV)(h:AHeap):R:=
 outK (zdd h 34 (some (.agg t0))) fun v3 h_2=>
 lett (IntKind.i64.wrap ((z7b t1)+1)) fun (t13:Int)=>
 outK (zd3 Pg h_2 50 (some (.int .i64 t13)) (some (.int .i64 t13))) fun v14 h_6=>
 obind (z58 0 v3) fun t15=>
 obind (z9 h_6 t15) fun v16=>
 obind (z2c .i64 v16) fun t16=>
 lett ((t16:Int) == 2) fun (t19:Bool)=>
 lett (fun (t7:AV) (h_17:AHeap)=>
  some (.ret (t7),h_17)) fun k16=>
 ifB t19
 (
  lett (fun (h_22:AHeap)=>
   k16 v14 h_22) fun k21=>
  z113 call t1 t2 v3 v14 k21 n 0 h_6)
 (
  lett ((t16:Int) == 3) fun (t43:Bool)=>
  lett (fun (t7_53:AV) (h_54:AHeap)=>
   k16 t7_53 h_54) fun k52=>
  ifB t43
  (
   lett (fun (t7_59:AV) (h_60:AHeap)=>
    k52 t7_59 h_60) fun k58=>
   z112 call t1 v3 k58 n t2 0 h_6)
  (
   lett ((t16:Int) == 4) fun (t61:Bool)=>
   lett (fun (t7_82:AV) (h_83:AHeap)=>
    k52 t7_82 h_83) fun k81=>
   ifB t61
   (
    lett (fun (t7_87:AV) (h_88:AHeap)=>
     k81 t7_87 h_88) fun k86=>
    z111 call t1 t2 v3 k86 n v14 0 h_6)
   (
    lett ((t16:Int) == 7) fun (t80:Bool)=>
    lett (fun (t7_112:AV) (h_113:AHeap)=>
     k81 t7_112 h_113) fun k111=>
    ifB t80
    (
     obind (z58 5 v3) fun t82=>
     obind (z9 h_6 t82) fun v83=>
     obind (ze8 6 v83 0) fun t84=>
     obind (z15 h_6 6 t84) fun t85=>
     callN (call 31 [.agg t85,z12 t1,t2] h_6) fun r88 h_118=>
     callN (call 48 [t2,r88] h_118) fun r89 h_120=>
     k111 r89 h_120)
    (
     lett ((t16:Int) == 5) fun (t91:Bool)=>
     lett (fun (t7_125:AV) (h_126:AHeap)=>
      k111 t7_125 h_126) fun k124=>
     ifB t91
     (
      obind (z58 5 v3) fun t92=>
      obind (z9 h_6 t92) fun v93=>
      obind (ze8 6 v93 0) fun t94=>
      obind (z15 h_6 6 t94) fun t95=>
      callN (call 49 [.agg t95,z12 t1,t2] h_6) fun r98 h_131=>
      k124 r98 h_131)
     (
      lett ((t16:Int) == 6) fun (t100:Bool)=>
      lett (fun (t7_136:AV) (h_137:AHeap)=>
       k124 t7_136 h_137) fun k135=>
      ifB t100
      (
       obind (z58 5 v3) fun t101=>
       obind (z9 h_6 t101) fun v102=>
       obind (ze8 6 v102 0) fun t103=>
       obind (z15 h_6 6 t103) fun t104=>
       obind (z58 5 v3) fun t106=>
       obind (z9 h_6 t106) fun v107=>
       obind (ze8 6 v107 0) fun t108=>
       obind (z15 h_6 6 t108) fun t109=>
       callN (call 31 [.agg t109,z12 t1,t2] h_6) fun r112 h_146=>
       chk (true&&(true&&(ze3 Pg h_146 34 t103 (.agg t104)&&(ze3 Pg h_146 32 t101 v102&&true))))<|
       callN (call 49 [.agg t104,z12 t1,r112] h_146) fun r113 h_149=>
       k135 r113 h_149)
      (
       k135 t2 h_6))))))
theorem z358{call:zf}(hc:SaysAll Pg call){n:Nat}{t0:List AV}{t1:z11}{t2:AV}{h:AHeap}{rR:ARes}{hR:AHeap}(z:z162 call n t0 t1 t2 h=some (rR,hR)):Says Pg 31 [.agg t0,z12 t1,t2] h rR hR:=by
 unfold z162 at z;refine sO Tryd.func31 fun w0 m0=>?_;refine wW [(0,.agg t0),(1,z12 t1),(2,t2)] ?_;refine oG fun n1=>W.r ?_;refine oK 3 z fun v3 h_2 z=>?_;refine oA 6 AV.nsl ?_;refine oV [(1,z12 t1),(2,t2),(3,v3)] (n1 ?_);refine oG fun n4=>W.r ?_;refine oA 11 (z12 t1) ?_;refine oA 12 (.int .i64 (z7b t1)) ?_;refine oI 13 .i64 z fun t13 z=>?_;refine oK 14 z fun v14 h_6 z=>?_;refine oA 7 v14 ?_;refine oV [(1,z12 t1),(2,t2),(3,v3),(7,v14)] (n4 ?_);refine oG fun n8=>?_;refine oG fun n9=>W.r ?_;refine oF 15 34 0 z fun t15 z=>?_;refine oLi 16 3 z fun t16 z=>?_;refine oV [(1,z12 t1),(2,t2),(3,v3),(7,v14),(16,.int .i64 t16)] (n9 ?_);refine ye (by kernel_rfl) (fun K13 n13 s13 o13 q13 p13=>?_);refine oG fun n14=>W.r ?_;refine oB 19 z fun t19 z=>?_;refine oA 18 (.bool t19) ?_;refine oV [(1,z12 t1),(2,t2),(3,v3),(7,v14),(16,.int .i64 t16),(18,.bool t19)] (n14 ?_);obtain⟨k16,e16,z⟩:=lS z
 have J16:∀(t7:AV) (h_17:AHeap),k16 t7 h_17=some (rR,hR)→Go w0 m0 (Func.ntmps Tryd.f31) (K13 .normal) [(7,t7)] [] h_17:=by
  intro t7 h_17 z;rw[e16] at z;refine n13 (n8 ?_);refine oG fun n18=>W.r ?_;refine oA 114 t7 ?_;refine oA 6 t7 ?_;refine oV [(6,t7)] (n18 (oY ?_));exact lZ z [.tmp 6] [t7] (rT zd)
 cases t19 with
 |true=>
  refine oT z fun z=>?_;refine oG fun n19=>W.r ?_;refine oA 8 (.int .i64 0) ?_;refine oV [(1,z12 t1),(2,t2),(3,v3),(7,v14),(8,.int .i64 0)] (n19 ?_);obtain⟨k21,e21,z⟩:=lS z
  have J21:∀(h_22:AHeap),k21 h_22=some (rR,hR)→Go w0 m0 (Func.ntmps Tryd.f31) (K13 .normal) [(7,v14)] [] h_22:=by
   intro h_22 z;rw[e21] at z;exact gW _ (J16 _ _ z)
  refine ye (by kernel_rfl) (fun K20 n20 s20 o20 q20 p20=>?_);refine y17 (by kernel_rfl) (fun I23 K23 b23 n23 e23 q23 p23=>?_)
  have L23:∀(m:Nat) (t8:Int) (h_24:AHeap),z113 call t1 t2 v3 v14 k21 m t8 h_24=some (rR,hR)→Go w0 m0 (Func.ntmps Tryd.f31) I23 [(1,z12 t1),(2,t2),(3,v3),(7,v14),(8,.int .i64 t8)] [] h_24:=by
   intro m
   induction m with
   |zero=>intro t8 h_24 z;cases z
   |succ m ih23=>
    intro t8 h_24 z;rw[z16d] at z;unfold zee at z;refine b23 ?_;refine W.s (fun _ n25 e25 _ _=>?_);refine oG fun n26=>W.r ?_;refine oA 20 (.int .i64 t8) ?_;refine oA 21 (z12 t1) ?_;refine oA 22 (.int .i64 (z7b t1)) ?_;refine oB 23 z fun t23 z=>?_;refine oV [(1,z12 t1),(2,t2),(3,v3),(7,v14),(8,.int .i64 t8),(23,.bool t23)] (n26 ?_)
    cases t23 with
    |true=>
     refine oT z fun z=>?_;refine oZ (n25 ?_);refine oG fun n28=>?_;refine ye (by kernel_rfl) (fun K29 n29 s29 o29 q29 p29=>?_);obtain⟨k30,e30,z⟩:=lS z
     have J30:∀(h_31:AHeap),k30 h_31=some (rR,hR)→Go w0 m0 (Func.ntmps Tryd.f31) (K29 .normal) [(1,z12 t1),(2,t2),(3,v3),(7,v14),(8,.int .i64 t8)] [] h_31:=by
      intro h_31 z;rw[e30] at z;refine n29 (n28 (W.r ?_));refine oA 24 (.int .i64 t8) ?_;refine oI 25 .i64 z fun t25 z=>?_;refine oA 8 (.int .i64 t25) ?_;refine oV [(1,z12 t1),(2,t2),(3,v3),(7,v14),(8,.int .i64 t25)] (n23 ?_);exact gW _ (ih23 _ _ z)
     refine y26 (by kernel_rfl) (hc.ok w0) (plan:=[0,1,2,3,4,5,6,7,8,9,10,11,12,13,14,15,16]) (by kernel_rfl) (by kernel_rfl) (by kernel_rfl) ?_;refine WD.a 0 (some 26) v14 h_24 ?_;refine WD.a 0 (some 27) (.int .i64 t8) h_24 ?_;obtain⟨t28,e33,z⟩:=lS z;refine WD.val (d:=(some 28)) (v:=.int .i64 t28) (h':=h_24) (by kernel_rfl) (by kernel_rfl) (zb4 (AV.int .i64) e33 (by kernel_rfl)) (k:=0) (by kernel_rfl) (fun e=>absurd e (by decide)) (by decide) ?_;refine WD.a 0 (some 29) t2 h_24 ?_;refine WD.a 0 (some 30) (.int .i64 t8) h_24 ?_;obtain⟨t31,e34,z⟩:=oS z;refine WD.b 0 (some 31) t31 h_24 (za8 (P:=Pg) (h:=h_24) (t:=50) (e':=4) (k:=.i64) (by kernel_rfl) (by kernel_rfl) (by kernel_rfl) e34) ?_
     replace z:=oS z;obtain⟨v32,e35,z⟩:=z
     replace z:=oS z;obtain⟨t32,c36,z⟩:=z
     have c36:=z24 c36;subst c36;refine WD.b 1 (some 32) (.bool t32) h_24 (z1f (P:=Pg) (h:=h_24) (t:=4) (by kernel_rfl) e35) ?_;refine WD.a 0 (some 33) (.bool t32) h_24 ?_
     cases t32 with
     |true=>
      replace z:=z8f z
      obtain⟨t34,e37,z⟩:=oS z;refine WD.b 0 (some 34) t34 h_24 (z33 (P:=Pg) (h:=h_24) (s:=34) (f:=1) (by kernel_rfl) e37) ?_;obtain⟨t35,e38,z⟩:=oS z;refine WD.b 1 (some 35) (.agg t35) h_24 (z64 (P:=Pg) (h:=h_24) (t:=31) (by kernel_rfl) (by kernel_rfl) e38) ?_;refine WD.a 0 (some 36) (z12 t1) h_24 ?_;refine WD.a 0 (some 37) (.int .i64 t8) h_24 ?_;obtain⟨t38,e39,z⟩:=oS z;refine WD.b 0 (some 38) (.int .u8 t38) h_24 (z1a1 (P:=Pg) (h:=h_24) (t:=9) (k:=.i64) (by kernel_rfl) e39) ?_
      replace z:=z2a z;obtain⟨r39,h_40,e41,z⟩:=z
      replace z:=oS z;obtain⟨t39,c42,z⟩:=z
      have c42:=z24 c42;subst c42;refine WD.call (d:=(some 39)) (by kernel_rfl) (by kernel_rfl) (by kernel_rfl) e41 (k:=2) (by kernel_rfl) (fun _=>(by kernel_rfl)) (by decide) ?_;refine WD.a 0 (some 40) (.bool t39) h_40 ?_;obtain⟨t41,e43,z⟩:=oS z;refine WD.b 0 (some 41) t41 h_40 (za8 (P:=Pg) (h:=h_40) (t:=50) (e':=4) (k:=.i64) (by kernel_rfl) (by kernel_rfl) (by kernel_rfl) e43) ?_;obtain⟨h_44,e45,z⟩:=oS z;refine WD.eff (h':=h_44) (by kernel_rfl) (by kernel_rfl) (Eq.trans (by kernel_rfl) (z61 (P:=Pg) (h:=h_40) (t:=4) (v:=(.bool t39)) (by kernel_rfl) (by kernel_rfl) e45)) (k:=2) (by kernel_rfl) (fun _=>(by kernel_rfl)) (by decide) ?_;refine WD.nil ?_;exact gW _ (J30 _ z)
     |false=>
      replace z:=z90 z
      refine oD 0 (some 34) ?_;refine oD 1 (some 35) ?_;refine oD 0 (some 36) ?_;refine oD 0 (some 37) ?_;refine oD 0 (some 38) ?_;refine WD.not (d:=(some 39)) (by kernel_rfl) (by kernel_rfl) (k:=2) (by kernel_rfl) (fun _=>(by kernel_rfl)) (by decide) ?_;refine WD.a 0 (some 40) (.bool false) h_24 ?_;obtain⟨t41_46,e47,z⟩:=oS z;refine WD.b 0 (some 41) t41_46 h_24 (za8 (P:=Pg) (h:=h_24) (t:=50) (e':=4) (k:=.i64) (by kernel_rfl) (by kernel_rfl) (by kernel_rfl) e47) ?_;obtain⟨h_48,e49,z⟩:=oS z;refine WD.eff (h':=h_48) (by kernel_rfl) (by kernel_rfl) (Eq.trans (by kernel_rfl) (z61 (P:=Pg) (h:=h_24) (t:=4) (v:=(.bool false)) (by kernel_rfl) (by kernel_rfl) e49)) (k:=2) (by kernel_rfl) (fun _=>(by kernel_rfl)) (by decide) ?_;refine WD.nil ?_;exact gW _ (J30 _ z)
    |false=>
     refine oU z fun z=>?_;refine W.exit (by kernel_rfl) ?_;refine e25 (e23 ?_);refine s20 (by kernel_rfl) ?_;exact gW _ (J21 _ z)
  exact gW _ (L23 _ _ _ z)
 |false=>
  refine oU z fun z=>?_;refine oG fun n50=>W.r ?_;refine oB 43 z fun t43 z=>?_;refine oA 42 (.bool t43) ?_;refine oV [(1,z12 t1),(2,t2),(3,v3),(7,v14),(16,.int .i64 t16),(42,.bool t43)] (n50 ?_);obtain⟨k52,e52,z⟩:=lS z
  have J52:∀(t7_53:AV) (h_54:AHeap),k52 t7_53 h_54=some (rR,hR)→Go w0 m0 (Func.ntmps Tryd.f31) (K13 .normal) [(7,t7_53)] [] h_54:=by
   intro t7_53 h_54 z;rw[e52] at z;exact gW _ (J16 _ _ z)
  cases t43 with
  |true=>
   refine oT z fun z=>?_;refine oG fun n55=>W.r ?_;refine oA 44 t2 ?_;refine oA 7 t2 ?_;refine oV [(1,z12 t1),(3,v3),(7,t2)] (n55 ?_);refine oG fun n56=>W.r ?_;refine oA 9 (.int .i64 0) ?_;refine oV [(1,z12 t1),(3,v3),(7,t2),(9,.int .i64 0)] (n56 ?_);obtain⟨k58,e58,z⟩:=lS z
   have J58:∀(t7_59:AV) (h_60:AHeap),k58 t7_59 h_60=some (rR,hR)→Go w0 m0 (Func.ntmps Tryd.f31) (K13 .normal) [(7,t7_59)] [] h_60:=by
    intro t7_59 h_60 z;rw[e58] at z;exact gW _ (J52 _ _ z)
   refine ye (by kernel_rfl) (fun K57 n57 s57 o57 q57 p57=>?_);refine y17 (by kernel_rfl) (fun I61 K61 b61 n61 e61 q61 p61=>?_)
   have L61:∀(m:Nat) (t7_62:AV) (t9:Int) (h_63:AHeap),z112 call t1 v3 k58 m t7_62 t9 h_63=some (rR,hR)→Go w0 m0 (Func.ntmps Tryd.f31) I61 [(1,z12 t1),(3,v3),(7,t7_62),(9,.int .i64 t9)] [] h_63:=by
    intro m
    induction m with
    |zero=>intro t7_62 t9 h_63 z;cases z
    |succ m ih61=>
     intro t7_62 t9 h_63 z;rw[z1db] at z;unfold z13d at z;refine b61 ?_;refine W.s (fun _ n64 e64 _ _=>?_);refine oG fun n65=>W.r ?_;refine oA 45 (.int .i64 t9) ?_;refine oF 46 34 2 z fun t46 z=>?_;refine oL 47 32 z fun v47 z=>?_;refine oM 48 32 34 z fun t48 z=>?_;refine oB 49 z fun t49 z=>?_;refine oV [(1,z12 t1),(3,v3),(7,t7_62),(9,.int .i64 t9),(49,.bool t49)] (n65 ?_)
     cases t49 with
     |true=>
      refine oT z fun z=>?_;refine oZ (n64 ?_);refine oG fun n70=>?_;refine ye (by kernel_rfl) (fun K71 n71 s71 o71 q71 p71=>?_);refine W.r ?_;refine oF 52 34 2 z fun t52 z=>?_;refine oL 53 32 z fun v53 z=>?_;refine oA 54 (.int .i64 t9) ?_;refine oP 55 32 34 .i64 z fun t55 z=>?_;refine oR 56 34 z fun t56 z=>?_;refine oA 57 (z12 t1) ?_;refine oA 58 t7_62 ?_;refine oC hc (some 59) z fun r59 h_76 z=>?_;refine oA 7 r59 ?_;refine oV [(1,z12 t1),(3,v3),(7,r59),(9,.int .i64 t9)] (n71 (n70 (W.r ?_)));refine oA 50 (.int .i64 t9) ?_;refine oI 51 .i64 z fun t51 z=>?_;refine oA 9 (.int .i64 t51) ?_;refine oV [(1,z12 t1),(3,v3),(7,r59),(9,.int .i64 t51)] (n61 ?_);exact gW _ (ih61 _ _ _ z)
     |false=>
      refine oU z fun z=>?_;refine W.exit (by kernel_rfl) ?_;refine e64 (e61 ?_);refine s57 (by kernel_rfl) ?_;exact gW _ (J58 _ _ z)
   exact gW _ (L61 _ _ _ _ z)
  |false=>
   refine oU z fun z=>?_;refine oG fun n79=>W.r ?_;refine oB 61 z fun t61 z=>?_;refine oA 60 (.bool t61) ?_;refine oV [(1,z12 t1),(2,t2),(3,v3),(7,v14),(16,.int .i64 t16),(60,.bool t61)] (n79 ?_);obtain⟨k81,e81,z⟩:=lS z
   have J81:∀(t7_82:AV) (h_83:AHeap),k81 t7_82 h_83=some (rR,hR)→Go w0 m0 (Func.ntmps Tryd.f31) (K13 .normal) [(7,t7_82)] [] h_83:=by
    intro t7_82 h_83 z;rw[e81] at z;exact gW _ (J52 _ _ z)
   cases t61 with
   |true=>
    refine oT z fun z=>?_;refine oG fun n84=>W.r ?_;refine oA 10 (.int .i64 0) ?_;refine oV [(1,z12 t1),(2,t2),(3,v3),(7,v14),(10,.int .i64 0)] (n84 ?_);obtain⟨k86,e86,z⟩:=lS z
    have J86:∀(t7_87:AV) (h_88:AHeap),k86 t7_87 h_88=some (rR,hR)→Go w0 m0 (Func.ntmps Tryd.f31) (K13 .normal) [(7,t7_87)] [] h_88:=by
     intro t7_87 h_88 z;rw[e86] at z;exact gW _ (J81 _ _ z)
    refine ye (by kernel_rfl) (fun K85 n85 s85 o85 q85 p85=>?_);refine y17 (by kernel_rfl) (fun I89 K89 b89 n89 e89 q89 p89=>?_)
    have L89:∀(m:Nat) (t7_90:AV) (t10:Int) (h_91:AHeap),z111 call t1 t2 v3 k86 m t7_90 t10 h_91=some (rR,hR)→Go w0 m0 (Func.ntmps Tryd.f31) I89 [(1,z12 t1),(2,t2),(3,v3),(7,t7_90),(10,.int .i64 t10)] [] h_91:=by
     intro m
     induction m with
     |zero=>intro t7_90 t10 h_91 z;cases z
     |succ m ih89=>
      intro t7_90 t10 h_91 z;rw[z1da] at z;unfold z13c at z;refine b89 ?_;refine W.s (fun _ n92 e92 _ _=>?_);refine oG fun n93=>W.r ?_;refine oA 62 (.int .i64 t10) ?_;refine oF 63 34 2 z fun t63 z=>?_;refine oL 64 32 z fun v64 z=>?_;refine oM 65 32 34 z fun t65 z=>?_;refine oB 66 z fun t66 z=>?_;refine oV [(1,z12 t1),(2,t2),(3,v3),(7,t7_90),(10,.int .i64 t10),(66,.bool t66)] (n93 ?_)
      cases t66 with
      |true=>
       refine oT z fun z=>?_;refine oZ (n92 ?_);refine oG fun n98=>?_;refine ye (by kernel_rfl) (fun K99 n99 s99 o99 q99 p99=>?_);refine W.r ?_;refine oA 69 t7_90 ?_;refine oF 70 34 2 z fun t70 z=>?_;refine oL 71 32 z fun v71 z=>?_;refine oA 72 (.int .i64 t10) ?_;refine oP 73 32 34 .i64 z fun t73 z=>?_;refine oR 74 34 z fun t74 z=>?_;refine oA 75 (z12 t1) ?_;refine oA 76 t2 ?_;refine oC hc (some 77) z fun r77 h_104 z=>?_;refine oC hc (some 78) z fun r78 h_106 z=>?_;refine oA 7 r78 ?_;refine oV [(1,z12 t1),(2,t2),(3,v3),(7,r78),(10,.int .i64 t10)] (n99 (n98 (W.r ?_)));refine oA 67 (.int .i64 t10) ?_;refine oI 68 .i64 z fun t68 z=>?_;refine oA 10 (.int .i64 t68) ?_;refine oV [(1,z12 t1),(2,t2),(3,v3),(7,r78),(10,.int .i64 t68)] (n89 ?_);exact gW _ (ih89 _ _ _ z)
      |false=>
       refine oU z fun z=>?_;refine W.exit (by kernel_rfl) ?_;refine e92 (e89 ?_);refine s85 (by kernel_rfl) ?_;exact gW _ (J86 _ _ z)
    exact gW _ (L89 _ _ _ _ z)
   |false=>
    refine oU z fun z=>?_;refine oG fun n109=>W.r ?_;refine oB 80 z fun t80 z=>?_;refine oA 79 (.bool t80) ?_;refine oV [(1,z12 t1),(2,t2),(3,v3),(16,.int .i64 t16),(79,.bool t80)] (n109 ?_);obtain⟨k111,e111,z⟩:=lS z
    have J111:∀(t7_112:AV) (h_113:AHeap),k111 t7_112 h_113=some (rR,hR)→Go w0 m0 (Func.ntmps Tryd.f31) (K13 .normal) [(7,t7_112)] [] h_113:=by
     intro t7_112 h_113 z;rw[e111] at z;exact gW _ (J81 _ _ z)
    cases t80 with
    |true=>
     refine oT z fun z=>?_;refine W.r ?_;refine oA 81 t2 ?_;refine oF 82 34 2 z fun t82 z=>?_;refine oL 83 32 z fun v83 z=>?_;refine oP 84 32 34 .i64 z fun t84 z=>?_;refine oR 85 34 z fun t85 z=>?_;refine oA 86 (z12 t1) ?_;refine oA 87 t2 ?_;refine oC hc (some 88) z fun r88 h_118 z=>?_;refine oC hc (some 89) z fun r89 h_120 z=>?_;refine oA 7 r89 ?_;refine oV [(7,r89)] ?_;exact gW _ (J111 _ _ z)
    |false=>
     refine oU z fun z=>?_;refine oG fun n122=>W.r ?_;refine oB 91 z fun t91 z=>?_;refine oA 90 (.bool t91) ?_;refine oV [(1,z12 t1),(2,t2),(3,v3),(16,.int .i64 t16),(90,.bool t91)] (n122 ?_);obtain⟨k124,e124,z⟩:=lS z
     have J124:∀(t7_125:AV) (h_126:AHeap),k124 t7_125 h_126=some (rR,hR)→Go w0 m0 (Func.ntmps Tryd.f31) (K13 .normal) [(7,t7_125)] [] h_126:=by
      intro t7_125 h_126 z;rw[e124] at z;exact gW _ (J111 _ _ z)
     cases t91 with
     |true=>
      refine oT z fun z=>?_;refine W.r ?_;refine oF 92 34 2 z fun t92 z=>?_;refine oL 93 32 z fun v93 z=>?_;refine oP 94 32 34 .i64 z fun t94 z=>?_;refine oR 95 34 z fun t95 z=>?_;refine oA 96 (z12 t1) ?_;refine oA 97 t2 ?_;refine oC hc (some 98) z fun r98 h_131 z=>?_;refine oA 7 r98 ?_;refine oV [(7,r98)] ?_;exact gW _ (J124 _ _ z)
     |false=>
      refine oU z fun z=>?_;refine oG fun n133=>W.r ?_;refine oB 100 z fun t100 z=>?_;refine oA 99 (.bool t100) ?_;refine oV [(1,z12 t1),(2,t2),(3,v3),(99,.bool t100)] (n133 ?_);obtain⟨k135,e135,z⟩:=lS z
      have J135:∀(t7_136:AV) (h_137:AHeap),k135 t7_136 h_137=some (rR,hR)→Go w0 m0 (Func.ntmps Tryd.f31) (K13 .normal) [(7,t7_136)] [] h_137:=by
       intro t7_136 h_137 z;rw[e135] at z;exact gW _ (J124 _ _ z)
      cases t100 with
      |true=>
       refine oT z fun z=>?_;refine y26 (by kernel_rfl) (hc.ok w0) (plan:=[0,1,2,3,4,5,6,7,8,9,10,11,12,13]) (by kernel_rfl) (by kernel_rfl) (by kernel_rfl) ?_;obtain⟨t101,e138,z⟩:=oS z;refine WD.b 0 (some 101) t101 h_6 (z33 (P:=Pg) (h:=h_6) (s:=34) (f:=2) (by kernel_rfl) e138) ?_;obtain⟨v102,e139,z⟩:=oS z;refine WD.b 1 (some 102) v102 h_6 (z1f (P:=Pg) (h:=h_6) (t:=32) (by kernel_rfl) e139) ?_;obtain⟨t103,e140,z⟩:=oS z;refine WD.b 0 (some 103) t103 h_6 (za8 (P:=Pg) (h:=h_6) (t:=32) (e':=34) (k:=.i64) (by kernel_rfl) (by kernel_rfl) (by kernel_rfl) e140) ?_;obtain⟨t104,e141,z⟩:=oS z;refine WD.b 1 (some 104) (.agg t104) h_6 (z64 (P:=Pg) (h:=h_6) (t:=34) (by kernel_rfl) (by kernel_rfl) e141) ?_;refine WD.a 0 (some 105) (z12 t1) h_6 ?_;obtain⟨t106,e142,z⟩:=oS z;refine WD.b 0 (some 106) t106 h_6 (z33 (P:=Pg) (h:=h_6) (s:=34) (f:=2) (by kernel_rfl) e142) ?_;obtain⟨v107,e143,z⟩:=oS z;refine WD.b 1 (some 107) v107 h_6 (z1f (P:=Pg) (h:=h_6) (t:=32) (by kernel_rfl) e143) ?_;obtain⟨t108,e144,z⟩:=oS z;refine WD.b 0 (some 108) t108 h_6 (za8 (P:=Pg) (h:=h_6) (t:=32) (e':=34) (k:=.i64) (by kernel_rfl) (by kernel_rfl) (by kernel_rfl) e144) ?_;obtain⟨t109,e145,z⟩:=oS z;refine WD.b 1 (some 109) (.agg t109) h_6 (z64 (P:=Pg) (h:=h_6) (t:=34) (by kernel_rfl) (by kernel_rfl) e145) ?_;refine WD.a 0 (some 110) (z12 t1) h_6 ?_;refine WD.a 0 (some 111) t2 h_6 ?_;obtain⟨r112,h_146,e147,z⟩:=z2a z;obtain⟨k148,z⟩:=z120 z;refine WD.call (d:=(some 112)) (by kernel_rfl) (by kernel_rfl) (by kernel_rfl) e147 (k:=2) (by kernel_rfl) (fun _=>(Eq.trans (by kernel_rfl) k148)) (by decide) ?_;obtain⟨r113,h_149,e150,z⟩:=z2a z;refine WD.call (d:=(some 113)) (by kernel_rfl) (by kernel_rfl) (by kernel_rfl) e150 (k:=2) (by kernel_rfl) (fun _=>(by kernel_rfl)) (by decide) ?_;refine WD.a 0 (some 7) r113 h_149 ?_;refine WD.nil ?_;refine gW [(7,r113)] ?_;exact gW _ (J135 _ _ z)
      |false=>
       refine oU z fun z=>?_;refine W.r ?_;refine oA 17 t2 ?_;refine oA 7 t2 ?_;refine oV [(7,t2)] ?_;exact gW _ (J135 _ _ z)
noncomputable def zeb(t0:AV)(t1:AV)(v9:AV)(k9:AHeap→R)(self:Int→AHeap→R)(t6:Int)(h_13:AHeap):R:=obind (z249 t0) fun t12=>lett (decide (t6<t12)) fun (t13:Bool)=>ifB t13 (obind (ze8 1 t0 t6) fun t20=>obind (z9 h_13 t20) fun v21=>obind (z1a v21) fun t21=>lett (fun (t27:Bool) (h_23:AHeap)=>obind (ze8 1 v9 t6) fun t28=>obind (z16 h_23 1 [.bool t27] t28) fun h_27=>lett (IntKind.i64.wrap (t6+1)) fun (t15:Int)=>self t15 h_27) fun j27=>ifB t21 (j27 true h_13) (obind (ze8 1 t1 t6) fun t25=>obind (z9 h_13 t25) fun v26=>obind (z1a v26) fun t26=>j27 t26 h_13)) (k9 h_13)
noncomputable def z10d(t0:AV)(t1:AV)(v9:AV)(k9:AHeap→R):Nat→Int→AHeap→R:=zbd (fun _ _=>none) (zeb t0 t1 v9 k9)
theorem z16c(t0:AV)(t1:AV)(v9:AV)(k9:AHeap→R)(m:Nat):z10d t0 t1 v9 k9 (m+1)=zeb t0 t1 v9 k9 (z10d t0 t1 v9 k9 m):=rfl
noncomputable def z161(_:zf)(n:Nat)(t0:AV)(t1:AV)(h:AHeap):R:=obind (z249 t0) fun t8=>outK (zd3 Pg h 50 (some (.int .i64 t8)) (some (.int .i64 t8))) fun v9 h_4=>lett (fun (h_10:AHeap)=>some (.ret (v9),h_10)) fun k9=>z10d t0 t1 v9 k9 n 0 h_4
theorem z355{call:zf}(_:SaysAll Pg call){n:Nat}{t0:AV}{t1:AV}{h:AHeap}{rR:ARes}{hR:AHeap}(z:z161 call n t0 t1 h=some (rR,hR)):Says Pg 48 [t0,t1] h rR hR:=by
 unfold z161 at z;refine sO Tryd.func48 fun w0 m0=>?_;refine wW [(0,t0),(1,t1)] ?_;refine oG fun n1=>W.r ?_;refine oA 4 AV.nsl ?_;refine oV [(0,t0),(1,t1)] (n1 ?_);refine oG fun n2=>W.r ?_;refine oA 7 t0 ?_;refine oM 8 50 4 z fun t8 z=>?_;refine oK 9 z fun v9 h_4 z=>?_;refine oA 5 v9 ?_;refine oV [(0,t0),(1,t1),(5,v9)] (n2 ?_);refine W.s (fun K6 n6 _ _ _=>?_);refine oG fun n7=>W.r ?_;refine oA 6 (.int .i64 0) ?_;refine oV [(0,t0),(1,t1),(5,v9),(6,.int .i64 0)] (n7 ?_);obtain⟨k9,e9,z⟩:=lS z
 have J9:∀(h_10:AHeap),k9 h_10=some (rR,hR)→Go w0 m0 (Func.ntmps Tryd.f48) (K6 .normal) [(5,v9)] [] h_10:=by
  intro h_10 z;rw[e9] at z;refine n6 ?_;refine oG fun n11=>W.r ?_;refine oA 29 v9 ?_;refine oA 4 v9 ?_;refine oV [(4,v9)] (n11 (oY ?_));exact lZ z [.tmp 4] [v9] (rT zd)
 refine ye (by kernel_rfl) (fun K8 n8 s8 o8 q8 p8=>?_);refine y17 (by kernel_rfl) (fun I12 K12 b12 n12 e12 q12 p12=>?_)
 have L12:∀(m:Nat) (t6:Int) (h_13:AHeap),z10d t0 t1 v9 k9 m t6 h_13=some (rR,hR)→Go w0 m0 (Func.ntmps Tryd.f48) I12 [(0,t0),(1,t1),(5,v9),(6,.int .i64 t6)] [] h_13:=by
  intro m
  induction m with
  |zero=>intro t6 h_13 z;cases z
  |succ m ih12=>
   intro t6 h_13 z;rw[z16c] at z;unfold zeb at z;refine b12 ?_;refine W.s (fun _ n14 e14 _ _=>?_);refine oG fun n15=>W.r ?_;refine oA 10 (.int .i64 t6) ?_;refine oA 11 t0 ?_;refine oM 12 50 4 z fun t12 z=>?_;refine oB 13 z fun t13 z=>?_;refine oV [(0,t0),(1,t1),(5,v9),(6,.int .i64 t6),(13,.bool t13)] (n15 ?_)
   cases t13 with
   |true=>
    refine oT z fun z=>?_;refine oZ (n14 ?_);refine oG fun n18=>?_;refine ye (by kernel_rfl) (fun K19 n19 s19 o19 q19 p19=>?_);refine W.r ?_;refine oA 16 v9 ?_;refine oA 17 (.int .i64 t6) ?_;refine oA 18 t0 ?_;refine oA 19 (.int .i64 t6) ?_;refine oP 20 50 4 .i64 z fun t20 z=>?_;refine oLb 21 4 z fun t21 z=>?_;refine oA 22 (.bool t21) ?_;obtain⟨j27,e24,z⟩:=lS z
    have J25:∀(t27:Bool) (h_23:AHeap),j27 t27 h_23=some (rR,hR)→WL Pg w0 m0 (Func.ntmps Tryd.f48) (y13 (y9 (y9 (y6 (y9 (y9 (y6 (y9 (y6 (y6 (z5f Tryd.f48))))))))))) 12 K19 [(0,t0),(1,t1),(5,v9),(6,.int .i64 t6),(16,v9),(17,.int .i64 t6),(27,.bool t27)] [] h_23:=by
     intro t27 h_23 z;rw[e24] at z;refine oP 28 50 4 .i64 z fun t28 z=>?_;refine oW 4 (.bool t27) z fun h_27 z=>?_;refine oV [(0,t0),(1,t1),(5,v9),(6,.int .i64 t6)] (n19 (n18 (W.r ?_)));refine oA 14 (.int .i64 t6) ?_;refine oI 15 .i64 z fun t15 z=>?_;refine oA 6 (.int .i64 t15) ?_;refine oV [(0,t0),(1,t1),(5,v9),(6,.int .i64 t15)] (n12 ?_);exact gW _ (ih12 _ _ z)
    cases t21 with
    |true=>
     replace z:=z8f z
     refine WL.o (some 23) ?_;refine WL.o (some 24) ?_;refine WL.o (some 25) ?_;refine WL.o (some 26) ?_;refine oA 27 (.bool true) ?_;exact lW _ (J25 _ _ z)
    |false=>
     replace z:=z90 z
     refine oA 23 t1 ?_;refine oA 24 (.int .i64 t6) ?_;refine oP 25 50 4 .i64 z fun t25 z=>?_;refine oLb 26 4 z fun t26 z=>?_;refine oA 27 (.bool t26) ?_;exact lW _ (J25 _ _ z)
   |false=>
    refine oU z fun z=>?_;refine W.exit (by kernel_rfl) ?_;refine e14 (e12 ?_);refine s8 (by kernel_rfl) ?_;exact gW _ (J9 _ z)
 exact gW _ (L12 _ _ _ z)
noncomputable def zcd(t2_6:AV)(r15:AV)(k19:Bool→AHeap→R)(self:Bool→Int→AHeap→R)(t8_26:Bool)(t9:Int)(h_27:AHeap):R:=obind (z249 r15) fun t18=>lett (decide (t9<t18)) fun (t19:Bool)=>ifB t19 (lett (fun (t8_35:Bool) (h_36:AHeap)=>lett (IntKind.i64.wrap (t9+1)) fun (t21:Int)=>self t8_35 t21 h_36) fun k34=>ifB t8_26 (k34 true h_27) (obind (ze8 1 r15 t9) fun t26=>obind (z9 h_27 t26) fun v27=>obind (z1a v27) fun t27=>obind (ze8 1 t2_6 t9) fun t30=>obind (z9 h_27 t30) fun v31=>obind (z1a v31) fun t31=>lett (!((t27:Bool) == t31)) fun (t32:Bool)=>k34 t32 h_27)) (k19 t8_26 h_27)
noncomputable def zec(t2_6:AV)(r15:AV)(k19:Bool→AHeap→R):Nat→Bool→Int→AHeap→R:=zbd (fun _ _ _=>none) (zcd t2_6 r15 k19)
theorem z14c(t2_6:AV)(r15:AV)(k19:Bool→AHeap→R)(m:Nat):zec t2_6 r15 k19 (m+1)=zcd t2_6 r15 k19 (zec t2_6 r15 k19 m):=rfl
noncomputable def z10e(call:zf)(n:Nat)(t1:z11)(v3:AV)(self:AV→AHeap→R)(t2_6:AV)(h_7:AHeap):R:=obind (z15 h_7 6 v3) fun t11=>callN (call 31 [.agg t11,z12 t1,t2_6] h_7) fun r14 h_11=>callN (call 48 [t2_6,r14] h_11) fun r15 h_13=>lett (fun (t8:Bool) (h_20:AHeap)=>lett (!t8) fun (t35:Bool)=>ifB t35 (some (.ret (r15),h_20)) (self r15 h_20)) fun k19=>zec t2_6 r15 k19 n false 0 h_13
noncomputable def zed(call:zf)(n:Nat)(t1:z11)(v3:AV):Nat→AV→AHeap→R:=zbd (fun _ _=>none) (z10e call n t1 v3)
theorem z1bd(call:zf)(n:Nat)(t1:z11)(v3:AV)(m:Nat):zed call n t1 v3 (m+1)=z10e call n t1 v3 (zed call n t1 v3 m):=rfl
noncomputable def z12b(call:zf)(n:Nat)(t0:List AV)(t1:z11)(t2:AV)(h:AHeap):R:=outK (zdd h 34 (some (.agg t0))) fun v3 h_2=>zed call n t1 v3 n t2 h_2
theorem z308{call:zf}(hc:SaysAll Pg call){n:Nat}{t0:List AV}{t1:z11}{t2:AV}{h:AHeap}{rR:ARes}{hR:AHeap}(z:z12b call n t0 t1 t2 h=some (rR,hR)):Says Pg 49 [.agg t0,z12 t1,t2] h rR hR:=by
 unfold z12b at z;refine sO Tryd.func49 fun w0 m0=>?_;refine wW [(0,.agg t0),(1,z12 t1),(2,t2)] ?_;refine oG fun n1=>W.r ?_;refine oK 3 z fun v3 h_2 z=>?_;refine oA 6 AV.nsl ?_;refine oV [(1,z12 t1),(2,t2),(3,v3)] (n1 ?_);refine ye (by kernel_rfl) (fun K4 n4 s4 o4 q4 p4=>?_);refine y17 (by kernel_rfl) (fun I5 K5 b5 n5 e5 q5 p5=>?_)
 have L5:∀(m:Nat) (t2_6:AV) (h_7:AHeap),zed call n t1 v3 m t2_6 h_7=some (rR,hR)→Go w0 m0 (Func.ntmps Tryd.f49) I5 [(1,z12 t1),(2,t2_6),(3,v3)] [] h_7:=by
  intro m
  induction m with
  |zero=>intro t2_6 h_7 z;cases z
  |succ m ih5=>
   intro t2_6 h_7 z;rw[z1bd] at z;unfold z10e at z;refine b5 ?_;refine ye (by kernel_rfl) (fun K8 n8 s8 o8 q8 p8=>?_);refine oG fun n9=>W.r ?_;refine oA 10 t2_6 ?_;refine oR 11 34 z fun t11 z=>?_;refine oA 12 (z12 t1) ?_;refine oA 13 t2_6 ?_;refine oC hc (some 14) z fun r14 h_11 z=>?_;refine oC hc (some 15) z fun r15 h_13 z=>?_;refine oA 7 r15 ?_;refine oV [(1,z12 t1),(2,t2_6),(3,v3),(7,r15)] (n9 ?_);refine oG fun n15=>W.r ?_;refine oA 8 (.bool false) ?_;refine oV [(1,z12 t1),(2,t2_6),(3,v3),(7,r15),(8,.bool false)] (n15 ?_);refine W.s (fun K16 n16 _ _ _=>?_);refine oG fun n17=>W.r ?_;refine oA 9 (.int .i64 0) ?_;refine oV [(1,z12 t1),(2,t2_6),(3,v3),(7,r15),(8,.bool false),(9,.int .i64 0)] (n17 ?_);obtain⟨k19,e19,z⟩:=lS z
   have J19:∀(t8:Bool) (h_20:AHeap),k19 t8 h_20=some (rR,hR)→Go w0 m0 (Func.ntmps Tryd.f49) (K16 .normal) [(1,z12 t1),(3,v3),(7,r15),(8,.bool t8)] [] h_20:=by
    intro t8 h_20 z;rw[e19] at z;refine n16 ?_;refine oH fun n21 q21=>?_;refine oG fun n22=>W.r ?_;refine oA 34 (.bool t8) ?_;refine oB 35 z fun t35 z=>?_;refine oV [(1,z12 t1),(3,v3),(7,r15),(35,.bool t35)] (n22 ?_)
    cases t35 with
    |true=>
     refine oT z fun z=>?_;refine oG fun n24=>W.r ?_;refine oA 36 r15 ?_;refine oA 6 r15 ?_;refine oV [(6,r15)] (n24 (oY (q21 (q8 (q5 (q4 ?_))))));exact lZ z [.tmp 6] [r15] (rT zd)
    |false=>
     refine oU z fun z=>?_;refine oZ (n21 (W.r ?_));refine oA 37 r15 ?_;refine oA 2 r15 ?_;refine oV [(1,z12 t1),(2,r15),(3,v3)] (n8 (n5 ?_));exact gW _ (ih5 _ _ z)
   refine ye (by kernel_rfl) (fun K18 n18 s18 o18 q18 p18=>?_);refine y17 (by kernel_rfl) (fun I25 K25 b25 n25 e25 q25 p25=>?_)
   have L25:∀(m:Nat) (t8_26:Bool) (t9:Int) (h_27:AHeap),zec t2_6 r15 k19 m t8_26 t9 h_27=some (rR,hR)→Go w0 m0 (Func.ntmps Tryd.f49) I25 [(1,z12 t1),(2,t2_6),(3,v3),(7,r15),(8,.bool t8_26),(9,.int .i64 t9)] [] h_27:=by
    intro m
    induction m with
    |zero=>intro t8_26 t9 h_27 z;cases z
    |succ m ih25=>
     intro t8_26 t9 h_27 z;rw[z14c] at z;unfold zcd at z;refine b25 ?_;refine W.s (fun _ n28 e28 _ _=>?_);refine oG fun n29=>W.r ?_;refine oA 16 (.int .i64 t9) ?_;refine oA 17 r15 ?_;refine oM 18 50 4 z fun t18 z=>?_;refine oB 19 z fun t19 z=>?_;refine oV [(1,z12 t1),(2,t2_6),(3,v3),(7,r15),(8,.bool t8_26),(9,.int .i64 t9),(19,.bool t19)] (n29 ?_)
     cases t19 with
     |true=>
      refine oT z fun z=>?_;refine oZ (n28 ?_);refine oG fun n32=>?_;refine ye (by kernel_rfl) (fun K33 n33 s33 o33 q33 p33=>?_);obtain⟨k34,e34,z⟩:=lS z
      have J34:∀(t8_35:Bool) (h_36:AHeap),k34 t8_35 h_36=some (rR,hR)→Go w0 m0 (Func.ntmps Tryd.f49) (K33 .normal) [(1,z12 t1),(2,t2_6),(3,v3),(7,r15),(8,.bool t8_35),(9,.int .i64 t9)] [] h_36:=by
       intro t8_35 h_36 z;rw[e34] at z;refine n33 (n32 (W.r ?_));refine oA 20 (.int .i64 t9) ?_;refine oI 21 .i64 z fun t21 z=>?_;refine oA 9 (.int .i64 t21) ?_;refine oV [(1,z12 t1),(2,t2_6),(3,v3),(7,r15),(8,.bool t8_35),(9,.int .i64 t21)] (n25 ?_);exact gW _ (ih25 _ _ _ z)
      refine y26 (by kernel_rfl) (hc.ok w0) (plan:=[0,1,2,3,4,5,6,7,8,9,10,11,12]) (by kernel_rfl) (by kernel_rfl) (by kernel_rfl) ?_;refine WD.a 0 (some 22) (.bool t8_26) h_27 ?_;refine WD.a 0 (some 23) (.bool t8_26) h_27 ?_
      cases t8_26 with
      |true=>
       replace z:=z8f z
       refine oD 0 (some 24) ?_;refine oD 0 (some 25) ?_;refine oD 0 (some 26) ?_;refine oD 1 (some 27) ?_;refine oD 0 (some 28) ?_;refine oD 0 (some 29) ?_;refine oD 0 (some 30) ?_;refine oD 1 (some 31) ?_;refine oD 0 (some 32) ?_;refine WD.a 0 (some 33) (.bool true) h_27 ?_;refine WD.val (d:=(some 8)) (v:=.bool true) (h':=h_27) (by kernel_rfl) (by kernel_rfl) (by kernel_rfl) (k:=2) (by kernel_rfl) (fun _=>(by kernel_rfl)) (by decide) ?_;refine WD.nil ?_;exact gW _ (J34 _ _ z)
      |false=>
       replace z:=z90 z
       refine WD.a 0 (some 24) r15 h_27 ?_;refine WD.a 0 (some 25) (.int .i64 t9) h_27 ?_;obtain⟨t26,e38,z⟩:=oS z;refine WD.b 0 (some 26) t26 h_27 (za8 (P:=Pg) (h:=h_27) (t:=50) (e':=4) (k:=.i64) (by kernel_rfl) (by kernel_rfl) (by kernel_rfl) e38) ?_
       replace z:=oS z;obtain⟨v27,e39,z⟩:=z
       replace z:=oS z;obtain⟨t27,c40,z⟩:=z
       have c40:=z24 c40;subst c40;refine WD.b 1 (some 27) (.bool t27) h_27 (z1f (P:=Pg) (h:=h_27) (t:=4) (by kernel_rfl) e39) ?_;refine WD.a 0 (some 28) t2_6 h_27 ?_;refine WD.a 0 (some 29) (.int .i64 t9) h_27 ?_;obtain⟨t30,e41,z⟩:=oS z;refine WD.b 0 (some 30) t30 h_27 (za8 (P:=Pg) (h:=h_27) (t:=50) (e':=4) (k:=.i64) (by kernel_rfl) (by kernel_rfl) (by kernel_rfl) e41) ?_
       replace z:=oS z;obtain⟨v31,e42,z⟩:=z
       replace z:=oS z;obtain⟨t31,c43,z⟩:=z
       have c43:=z24 c43;subst c43;refine WD.b 1 (some 31) (.bool t31) h_27 (z1f (P:=Pg) (h:=h_27) (t:=4) (by kernel_rfl) e42) ?_;obtain⟨t32,e44,z⟩:=lS z;refine WD.val (d:=(some 32)) (v:=.bool t32) (h':=h_27) (by kernel_rfl) (by kernel_rfl) (zb4 AV.bool e44 (by kernel_rfl)) (k:=0) (by kernel_rfl) (fun e=>absurd e (by decide)) (by decide) ?_;refine WD.a 0 (some 33) (.bool t32) h_27 ?_;refine WD.val (d:=(some 8)) (v:=.bool t32) (h':=h_27) (by kernel_rfl) (by kernel_rfl) (by kernel_rfl) (k:=2) (by kernel_rfl) (fun _=>(by kernel_rfl)) (by decide) ?_;refine WD.nil ?_;exact gW _ (J34 _ _ z)
     |false=>
      refine oU z fun z=>?_;refine W.exit (by kernel_rfl) ?_;refine e28 (e25 ?_);refine s18 (by kernel_rfl) ?_;exact gW _ (J19 _ _ z)
   exact gW _ (L25 _ _ _ _ z)
 exact gW _ (L5 _ _ _ z)
noncomputable def zcc(_:zf)(_:Nat)(t0:z11)(h:AHeap):R:=lett (IntKind.i64.wrap ((z7b t0)+1)) fun (t6:Int)=>outK (zd3 Pg h 50 (some (.int .i64 t6)) (some (.int .i64 t6))) fun v7 h_4=>obind (ze8 1 v7 0) fun t9=>obind (z16 h_4 1 [.bool true] t9) fun h_8=>some (.ret (v7),h_8)
theorem z307{call:zf}(_:SaysAll Pg call){n:Nat}{t0:z11}{h:AHeap}{rR:ARes}{hR:AHeap}(z:zcc call n t0 h=some (rR,hR)):Says Pg 32 [z12 t0] h rR hR:=by
 unfold zcc at z;refine sO Tryd.func32 fun w0 m0=>?_;refine wW [(0,z12 t0)] ?_;refine oG fun n1=>W.r ?_;refine oA 2 AV.nsl ?_;refine oV [(0,z12 t0)] (n1 ?_);refine oG fun n2=>W.r ?_;refine oA 4 (z12 t0) ?_;refine oA 5 (.int .i64 (z7b t0)) ?_;refine oI 6 .i64 z fun t6 z=>?_;refine oK 7 z fun v7 h_4 z=>?_;refine oA 3 v7 ?_;refine oV [(3,v7)] (n2 ?_);refine oG fun n6=>W.r ?_;refine oA 8 v7 ?_;refine oP 9 50 4 .i64 z fun t9 z=>?_;refine oW 4 (.bool true) z fun h_8 z=>?_;refine oV [(3,v7)] (n6 ?_);refine oG fun n10=>W.r ?_;refine oA 10 v7 ?_;refine oA 2 v7 ?_;refine oV [(2,v7)] (n10 (oY ?_));exact lZ z [.tmp 2] [v7] (rT zd)
noncomputable def z12c(call:zf)(_:Nat)(t0:List AV)(t1:z11)(h:AHeap):R:=
 outK (zdd h 34 (some (.agg t0))) fun v2 h_2=>
 obind (z15 h_2 6 v2) fun t6=>
 callN (call 32 [z12 t1] h_2) fun r9 h_6=>
 chk (ze3 Pg h_6 34 v2 (.agg t6)&&true)<|
 callN (call 31 [.agg t6,z12 t1,r9] h_6) fun r10 h_9=>
 obind (ze8 1 r10 (z7b t1)) fun t14=>
 obind (z9 h_9 t14) fun v15=>
 obind (z1a v15) fun t15=>
 some (.ret (.bool t15),h_9)
theorem z357{call:zf}(hc:SaysAll Pg call){n:Nat}{t0:List AV}{t1:z11}{h:AHeap}{rR:ARes}{hR:AHeap}(z:z12c call n t0 t1 h=some (rR,hR)):Says Pg 15 [.agg t0,z12 t1] h rR hR:=by
 unfold z12c at z;refine sO Tryd.func15 fun w0 m0=>?_;refine wW [(0,.agg t0),(1,z12 t1)] ?_;refine oG fun n1=>W.r ?_;refine oK 2 z fun v2 h_2 z=>?_;refine oA 4 (.bool false) ?_;refine oV [(1,z12 t1),(2,v2)] (n1 ?_);refine oG fun n4=>?_;refine y26 (by kernel_rfl) (hc.ok w0) (plan:=[0,1,2,3,4,5]) (by kernel_rfl) (by kernel_rfl) (by kernel_rfl) ?_;obtain⟨t6,e5,z⟩:=oS z;refine WD.b 1 (some 6) (.agg t6) h_2 (z64 (P:=Pg) (h:=h_2) (t:=34) (by kernel_rfl) (by kernel_rfl) e5) ?_;refine WD.a 0 (some 7) (z12 t1) h_2 ?_;refine WD.a 0 (some 8) (z12 t1) h_2 ?_;obtain⟨r9,h_6,e7,z⟩:=z2a z;obtain⟨k8,z⟩:=z120 z;refine WD.call (d:=(some 9)) (by kernel_rfl) (by kernel_rfl) (by kernel_rfl) e7 (k:=2) (by kernel_rfl) (fun _=>(Eq.trans (by kernel_rfl) k8)) (by decide) ?_;obtain⟨r10,h_9,e10,z⟩:=z2a z;refine WD.call (d:=(some 10)) (by kernel_rfl) (by kernel_rfl) (by kernel_rfl) e10 (k:=2) (by kernel_rfl) (fun _=>(by kernel_rfl)) (by decide) ?_;refine WD.a 0 (some 5) r10 h_9 ?_;refine WD.nil ?_;refine gW [(1,z12 t1),(5,r10)] (n4 ?_);refine oG fun n11=>W.r ?_;refine oA 11 r10 ?_;refine oA 12 (z12 t1) ?_;refine oA 13 (.int .i64 (z7b t1)) ?_;refine oP 14 50 4 .i64 z fun t14 z=>?_;refine oLb 15 4 z fun t15 z=>?_;refine oA 4 (.bool t15) ?_;refine oV [(4,.bool t15)] (n11 (oY ?_));exact lZ z [.tmp 4] [.bool t15] (rT zd)
noncomputable def z16f(_:zf)(_:Nat)(t0:List AV)(t1:Int)(h:AHeap):R:=outK (zdd h 31 (some (.agg t0))) fun v2 h_2=>obind (z44a .u8 t1 64) fun t6=>obind (z20b 4 1 v2 t6) fun t7=>obind (z9 h_2 t7) fun v8=>obind (z2c .u64 v8) fun t8=>obind (z448 .u8 t1 64) fun t10=>obind (shrI .u64 t8 t10) fun t11=>lett (z393 .u64 t11 1) fun (t12:Int)=>lett ((t12:Int) == 1) fun (t13:Bool)=>some (.ret (.bool t13),h_2)
theorem z3b3{call:zf}(_:SaysAll Pg call){n:Nat}{t0:List AV}{t1:Int}{h:AHeap}{rR:ARes}{hR:AHeap}(z:z16f call n t0 t1 h=some (rR,hR)):Says Pg 47 [.agg t0,.int .u8 t1] h rR hR:=by
 unfold z16f at z;refine sO Tryd.func47 fun w0 m0=>?_;refine wW [(0,.agg t0),(1,.int .u8 t1)] ?_;refine oG fun n1=>W.r ?_;refine oK 2 z fun v2 h_2 z=>?_;refine oA 4 (.bool false) ?_;refine oV [(1,.int .u8 t1),(2,v2)] (n1 ?_);refine oG fun n4=>W.r ?_;refine oA 5 (.int .u8 t1) ?_;obtain⟨t6,e5,z⟩:=oS z;refine WL.b (some 6) (.int .u8 t6) h_2 (z268 (P:=Pg) (h:=h_2) (t:=5) (lit:=true) e5) ?_;refine oQ 7 31 29 .u8 z fun t7 z=>?_;refine oLi 8 29 z fun t8 z=>?_;refine oA 9 (.int .u8 t1) ?_;obtain⟨t10,e9,z⟩:=oS z;refine WL.b (some 10) (.int .u8 t10) h_2 (z266 (P:=Pg) (h:=h_2) (t:=5) (lit:=true) e9) ?_;obtain⟨t11,e10,z⟩:=oS z;refine WL.b (some 11) (.int .u64 t11) h_2 (z34d (P:=Pg) (h:=h_2) (t:=29) (k':=.u8) (lit:=false) e10) ?_;refine oI 12 .u64 z fun t12 z=>?_;refine oB 13 z fun t13 z=>?_;refine oA 4 (.bool t13) ?_;refine oV [(4,.bool t13)] (n4 (oY ?_));exact lZ z [.tmp 4] [.bool t13] (rT zd)
set_option maxHeartbeats 4000000
set_option maxRecDepth 20000
noncomputable def z13a(call:zf)(v1:AV)(k53:AHeap→R)(self:Int→AHeap→R)(t4:Int)(h_57:AHeap):R:=obind (z58 5 v1) fun t32=>obind (z9 h_57 t32) fun v33=>obind (z249 v33) fun t34=>lett (decide (t4<t34)) fun (t35:Bool)=>ifB t35 (obind (z58 5 v1) fun t38=>obind (z9 h_57 t38) fun v39=>obind (ze8 6 v39 t4) fun t41=>obind (z15 h_57 6 t41) fun t42=>callN (call 50 [.agg t42] h_57) fun r43 h_71=>obind (z1a r43) fun t43=>ifB t43 (some (.ret (.bool true),h_71)) (lett (IntKind.i64.wrap (t4+1)) fun (t37:Int)=>self t37 h_71)) (k53 h_57)
noncomputable def z10f(call:zf)(v1:AV)(k53:AHeap→R):Nat→Int→AHeap→R:=zbd (fun _ _=>none) (z13a call v1 k53)
theorem z1d8(call:zf)(v1:AV)(k53:AHeap→R)(m:Nat):z10f call v1 k53 (m+1)=z13a call v1 k53 (z10f call v1 k53 m):=rfl
noncomputable def z13b(call:zf)(v1:AV)(k24:AHeap→R)(self:Int→AHeap→R)(t3:Int)(h_28:AHeap):R:=obind (z58 5 v1) fun t16=>obind (z9 h_28 t16) fun v17=>obind (z249 v17) fun t18=>lett (decide (t3<t18)) fun (t19:Bool)=>ifB t19 (obind (z58 5 v1) fun t22=>obind (z9 h_28 t22) fun v23=>obind (ze8 6 v23 t3) fun t25=>obind (z15 h_28 6 t25) fun t26=>callN (call 50 [.agg t26] h_28) fun r27 h_42=>obind (z1a r27) fun t27=>lett (!t27) fun (t28:Bool)=>ifB t28 (some (.ret (.bool false),h_42)) (lett (IntKind.i64.wrap (t3+1)) fun (t21:Int)=>self t21 h_42)) (k24 h_28)
noncomputable def z110(call:zf)(v1:AV)(k24:AHeap→R):Nat→Int→AHeap→R:=zbd (fun _ _=>none) (z13b call v1 k24)
theorem z1d9(call:zf)(v1:AV)(k24:AHeap→R)(m:Nat):z110 call v1 k24 (m+1)=z13b call v1 k24 (z110 call v1 k24 m):=rfl
noncomputable def zdc(call:zf)(n:Nat)(t0:List AV)(h:AHeap):R:=outK (zdd h 34 (some (.agg t0))) fun v1 h_2=>obind (z58 0 v1) fun t5=>obind (z9 h_2 t5) fun v6=>obind (z2c .i64 v6) fun t6=>lett ((t6:Int) == 2) fun (t8:Bool)=>ifB t8 (obind (z58 1 v1) fun t9=>obind (z15 h_2 4 t9) fun t10=>obind (z27a Pg 31 []) fun t11=>obind (z18f Pg 31 (.agg t10) (.agg t11)) fun t12=>lett (!t12) fun (t12_17:Bool)=>some (.ret (.bool t12_17),h_2)) (lett ((t6:Int) == 3) fun (t14:Bool)=>ifB t14 (lett (fun (h_25:AHeap)=>some (.ret (.bool true),h_25)) fun k24=>z110 call v1 k24 n 0 h_2) (lett ((t6:Int) == 4) fun (t30:Bool)=>ifB t30 (lett (fun (h_54:AHeap)=>some (.ret (.bool false),h_54)) fun k53=>z10f call v1 k53 n 0 h_2) (lett ((t6:Int) == 6) fun (t45:Bool)=>ifB t45 (obind (z58 5 v1) fun t46=>obind (z9 h_2 t46) fun v47=>obind (ze8 6 v47 0) fun t48=>obind (z15 h_2 6 t48) fun t49=>callN (call 50 [.agg t49] h_2) fun r50 h_83=>obind (z1a r50) fun t50=>some (.ret (.bool t50),h_83)) (some (.ret (.bool true),h_2)))))
theorem z356{call:zf}(hc:SaysAll Pg call){n:Nat}{t0:List AV}{h:AHeap}{rR:ARes}{hR:AHeap}(z:zdc call n t0 h=some (rR,hR)):Says Pg 50 [.agg t0] h rR hR:=by
 unfold zdc at z;refine sO Tryd.func50 fun w0 m0=>?_;refine wW [(0,.agg t0)] ?_;refine oG fun n1=>W.r ?_;refine oK 1 z fun v1 h_2 z=>?_;refine oA 2 (.bool false) ?_;refine oV [(1,v1)] (n1 ?_);refine oH fun n4 q4=>?_;refine oG fun n5=>W.r ?_;refine oF 5 34 0 z fun t5 z=>?_;refine oLi 6 3 z fun t6 z=>?_;refine oV [(1,v1),(6,.int .i64 t6)] (n5 ?_);refine ye (by kernel_rfl) (fun K9 n9 s9 o9 q9 p9=>?_);refine oG fun n10=>W.r ?_;refine oB 8 z fun t8 z=>?_;refine oA 7 (.bool t8) ?_;refine oV [(1,v1),(6,.int .i64 t6),(7,.bool t8)] (n10 ?_)
 cases t8 with
 |true=>
  refine oT z fun z=>?_;refine oG fun n12=>W.r ?_;refine oF 9 34 1 z fun t9 z=>?_;refine oR 10 31 z fun t10 z=>?_;obtain⟨t11,e15,z⟩:=oS z;refine WL.val (d:=(some 11)) (v:=.agg t11) (h':=h_2) (by kernel_rfl) (by kernel_rfl) (z1ef (by kernel_rfl) e15) ?_;obtain⟨t12,e16,z⟩:=oS z;obtain⟨t12_17,e18,z⟩:=lS z;refine WL.val (d:=(some 12)) (v:=.bool t12_17) (h':=h_2) (by kernel_rfl) (by kernel_rfl) (zb4 AV.bool e18 (Eq.trans (by kernel_rfl) (neq_other (P:=Pg) (h:=h_2) (t:=31) (lit:=false) (by kernel_rfl) e16))) ?_;refine oA 2 (.bool t12_17) ?_;refine oV [(2,.bool t12_17)] (n12 (oY (q9 (q4 ?_))));exact lZ z [.tmp 2] [.bool t12_17] (rT zd)
 |false=>
  refine oU z fun z=>?_;refine oG fun n19=>W.r ?_;refine oB 14 z fun t14 z=>?_;refine oA 13 (.bool t14) ?_;refine oV [(1,v1),(6,.int .i64 t6),(13,.bool t14)] (n19 ?_)
  cases t14 with
  |true=>
   refine oT z fun z=>?_;refine W.s (fun K21 n21 _ q21 _=>?_);refine oG fun n22=>W.r ?_;refine oA 3 (.int .i64 0) ?_;refine oV [(1,v1),(3,.int .i64 0)] (n22 ?_);obtain⟨k24,e24,z⟩:=lS z
   have J24:∀(h_25:AHeap),k24 h_25=some (rR,hR)→Go w0 m0 (Func.ntmps Tryd.f50) (K21 .normal) [] [] h_25:=by
    intro h_25 z;rw[e24] at z;refine n21 ?_;refine oG fun n26=>W.r ?_;refine oA 2 (.bool true) ?_;refine oV [(2,.bool true)] (n26 (oY (q9 (q4 ?_))));exact lZ z [.tmp 2] [.bool true] (rT zd)
   refine ye (by kernel_rfl) (fun K23 n23 s23 o23 q23 p23=>?_);refine y17 (by kernel_rfl) (fun I27 K27 b27 n27 e27 q27 p27=>?_)
   have L27:∀(m:Nat) (t3:Int) (h_28:AHeap),z110 call v1 k24 m t3 h_28=some (rR,hR)→Go w0 m0 (Func.ntmps Tryd.f50) I27 [(1,v1),(3,.int .i64 t3)] [] h_28:=by
    intro m
    induction m with
    |zero=>intro t3 h_28 z;cases z
    |succ m ih27=>
     intro t3 h_28 z;rw[z1d9] at z;unfold z13b at z;refine b27 ?_;refine W.s (fun _ n29 e29 _ _=>?_);refine oG fun n30=>W.r ?_;refine oA 15 (.int .i64 t3) ?_;refine oF 16 34 2 z fun t16 z=>?_;refine oL 17 32 z fun v17 z=>?_;refine oM 18 32 34 z fun t18 z=>?_;refine oB 19 z fun t19 z=>?_;refine oV [(1,v1),(3,.int .i64 t3),(19,.bool t19)] (n30 ?_)
     cases t19 with
     |true=>
      refine oT z fun z=>?_;refine oZ (n29 ?_);refine oH fun n35 q35=>?_;refine ye (by kernel_rfl) (fun K36 n36 s36 o36 q36 p36=>?_);refine oG fun n37=>W.r ?_;refine oF 22 34 2 z fun t22 z=>?_;refine oL 23 32 z fun v23 z=>?_;refine oA 24 (.int .i64 t3) ?_;refine oP 25 32 34 .i64 z fun t25 z=>?_;refine oR 26 34 z fun t26 z=>?_;refine oCb hc 27 z fun t27 h_42 z=>?_;refine oB 28 z fun t28 z=>?_;refine oV [(1,v1),(3,.int .i64 t3),(28,.bool t28)] (n37 ?_)
      cases t28 with
      |true=>
       refine oT z fun z=>?_;refine oG fun n46=>W.r ?_;refine oA 2 (.bool false) ?_;refine oV [(2,.bool false)] (n46 (oY (q36 (q35 (q27 (q23 (q21 (q9 (q4 ?_)))))))));exact lZ z [.tmp 2] [.bool false] (rT zd)
      |false=>
       refine oU z fun z=>?_;refine oZ (n36 (n35 (W.r ?_)));refine oA 20 (.int .i64 t3) ?_;refine oI 21 .i64 z fun t21 z=>?_;refine oA 3 (.int .i64 t21) ?_;refine oV [(1,v1),(3,.int .i64 t21)] (n27 ?_);exact gW _ (ih27 _ _ z)
     |false=>
      refine oU z fun z=>?_;refine W.exit (by kernel_rfl) ?_;refine e29 (e27 ?_);refine s23 (by kernel_rfl) ?_;exact gW _ (J24 _ z)
   exact gW _ (L27 _ _ _ z)
  |false=>
   refine oU z fun z=>?_;refine oG fun n48=>W.r ?_;refine oB 30 z fun t30 z=>?_;refine oA 29 (.bool t30) ?_;refine oV [(1,v1),(6,.int .i64 t6),(29,.bool t30)] (n48 ?_)
   cases t30 with
   |true=>
    refine oT z fun z=>?_;refine W.s (fun K50 n50 _ q50 _=>?_);refine oG fun n51=>W.r ?_;refine oA 4 (.int .i64 0) ?_;refine oV [(1,v1),(4,.int .i64 0)] (n51 ?_);obtain⟨k53,e53,z⟩:=lS z
    have J53:∀(h_54:AHeap),k53 h_54=some (rR,hR)→Go w0 m0 (Func.ntmps Tryd.f50) (K50 .normal) [] [] h_54:=by
     intro h_54 z;rw[e53] at z;refine n50 ?_;refine oG fun n55=>W.r ?_;refine oA 2 (.bool false) ?_;refine oV [(2,.bool false)] (n55 (oY (q9 (q4 ?_))));exact lZ z [.tmp 2] [.bool false] (rT zd)
    refine ye (by kernel_rfl) (fun K52 n52 s52 o52 q52 p52=>?_);refine y17 (by kernel_rfl) (fun I56 K56 b56 n56 e56 q56 p56=>?_)
    have L56:∀(m:Nat) (t4:Int) (h_57:AHeap),z10f call v1 k53 m t4 h_57=some (rR,hR)→Go w0 m0 (Func.ntmps Tryd.f50) I56 [(1,v1),(4,.int .i64 t4)] [] h_57:=by
     intro m
     induction m with
     |zero=>intro t4 h_57 z;cases z
     |succ m ih56=>
      intro t4 h_57 z;rw[z1d8] at z;unfold z13a at z;refine b56 ?_;refine W.s (fun _ n58 e58 _ _=>?_);refine oG fun n59=>W.r ?_;refine oA 31 (.int .i64 t4) ?_;refine oF 32 34 2 z fun t32 z=>?_;refine oL 33 32 z fun v33 z=>?_;refine oM 34 32 34 z fun t34 z=>?_;refine oB 35 z fun t35 z=>?_;refine oV [(1,v1),(4,.int .i64 t4),(35,.bool t35)] (n59 ?_)
      cases t35 with
      |true=>
       refine oT z fun z=>?_;refine oZ (n58 ?_);refine oH fun n64 q64=>?_;refine ye (by kernel_rfl) (fun K65 n65 s65 o65 q65 p65=>?_);refine oG fun n66=>W.r ?_;refine oF 38 34 2 z fun t38 z=>?_;refine oL 39 32 z fun v39 z=>?_;refine oA 40 (.int .i64 t4) ?_;refine oP 41 32 34 .i64 z fun t41 z=>?_;refine oR 42 34 z fun t42 z=>?_;refine oCb hc 43 z fun t43 h_71 z=>?_;refine oV [(1,v1),(4,.int .i64 t4),(43,.bool t43)] (n66 ?_)
       cases t43 with
       |true=>
        refine oT z fun z=>?_;refine oG fun n74=>W.r ?_;refine oA 2 (.bool true) ?_;refine oV [(2,.bool true)] (n74 (oY (q65 (q64 (q56 (q52 (q50 (q9 (q4 ?_)))))))));exact lZ z [.tmp 2] [.bool true] (rT zd)
       |false=>
        refine oU z fun z=>?_;refine oZ (n65 (n64 (W.r ?_)));refine oA 36 (.int .i64 t4) ?_;refine oI 37 .i64 z fun t37 z=>?_;refine oA 4 (.int .i64 t37) ?_;refine oV [(1,v1),(4,.int .i64 t37)] (n56 ?_);exact gW _ (ih56 _ _ z)
      |false=>
       refine oU z fun z=>?_;refine W.exit (by kernel_rfl) ?_;refine e58 (e56 ?_);refine s52 (by kernel_rfl) ?_;exact gW _ (J53 _ z)
    exact gW _ (L56 _ _ _ z)
   |false=>
    refine oU z fun z=>?_;refine oG fun n76=>W.r ?_;refine oB 45 z fun t45 z=>?_;refine oA 44 (.bool t45) ?_;refine oV [(1,v1),(44,.bool t45)] (n76 ?_)
    cases t45 with
    |true=>
     refine oT z fun z=>?_;refine oG fun n78=>W.r ?_;refine oF 46 34 2 z fun t46 z=>?_;refine oL 47 32 z fun v47 z=>?_;refine oP 48 32 34 .i64 z fun t48 z=>?_;refine oR 49 34 z fun t49 z=>?_;refine oCb hc 50 z fun t50 h_83 z=>?_;refine oA 2 (.bool t50) ?_;refine oV [(2,.bool t50)] (n78 (oY (q9 (q4 ?_))));exact lZ z [.tmp 2] [.bool t50] (rT zd)
    |false=>
     refine oU z fun z=>?_;refine oZ (n9 (n4 ?_));refine oG fun n86=>W.r ?_;refine oA 2 (.bool true) ?_;refine oV [(2,.bool true)] (n86 (oY ?_));exact lZ z [.tmp 2] [.bool true] (rT zd)
noncomputable def z138(call:zf)(t1:z11)(t2:AV)(v3:AV)(k117:AHeap→R)(self:Int→AHeap→R)(t10:Int)(h_121:AHeap):R:=obind (z58 5 v3) fun t84=>obind (z9 h_121 t84) fun v85=>obind (z249 v85) fun t86=>lett (decide (t10<t86)) fun (t87:Bool)=>ifB t87 (obind (z58 5 v3) fun t90=>obind (z9 h_121 t90) fun v91=>obind (ze8 6 v91 t10) fun t93=>obind (z15 h_121 6 t93) fun t94=>callN (call 34 [.agg t94,z12 t1,t2] h_121) fun r97 h_135=>obind (z1a r97) fun t97=>ifB t97 (some (.ret (.bool true),h_135)) (lett (IntKind.i64.wrap (t10+1)) fun (t89:Int)=>self t89 h_135)) (k117 h_121)
noncomputable def z10c(call:zf)(t1:z11)(t2:AV)(v3:AV)(k117:AHeap→R):Nat→Int→AHeap→R:=zbd (fun _ _=>none) (z138 call t1 t2 v3 k117)
theorem z1d6(call:zf)(t1:z11)(t2:AV)(v3:AV)(k117:AHeap→R)(m:Nat):z10c call t1 t2 v3 k117 (m+1)=z138 call t1 t2 v3 k117 (z10c call t1 t2 v3 k117 m):=rfl
noncomputable def z139(call:zf)(t1:z11)(v3:AV)(k63:AHeap→R)(self:AV→Int→AHeap→R)(t2_67:AV)(t8:Int)(h_68:AHeap):R:=obind (z58 5 v3) fun t49=>obind (z9 h_68 t49) fun v50=>obind (z249 v50) fun t51=>lett (decide (t8<t51)) fun (t52:Bool)=>ifB t52 (obind (z58 5 v3) fun t55=>obind (z9 h_68 t55) fun v56=>lett (IntKind.i64.wrap (t8+1)) fun (t58:Int)=>outK (z153 Pg h_68 32 v56 (some (.int .i64 t58)) none) fun v59 h_81=>obind (z27a Pg 34 [(0,.int .i64 3),(2,v59)]) fun t60=>lett (newH h_81 34 [.int .i64 0,.int .u64 0,.int .u64 0,.int .u64 0,.int .u64 0,.nsl]) fun h_84=>obind (z16 h_84 6 t60 (z7 h_81)) fun h_86=>obind (z58 5 v3) fun t61=>obind (z9 h_86 t61) fun v62=>obind (ze8 6 v62 t8) fun t64=>obind (z15 h_86 6 t64) fun t65=>callN (call 34 [.agg t65,z12 t1,t2_67] h_86) fun r68 h_94=>obind (z1a r68) fun t68=>lett (fun (t72:Bool) (h_97:AHeap)=>ifB t72 (some (.ret (.bool true),h_97)) (obind (z58 5 v3) fun t73=>obind (z9 h_97 t73) fun v74=>obind (ze8 6 v74 t8) fun t76=>obind (z15 h_97 6 t76) fun t77=>callN (call 31 [.agg t77,z12 t1,t2_67] h_97) fun r80 h_105=>lett (IntKind.i64.wrap (t8+1)) fun (t54:Int)=>self r80 t54 h_105)) fun j72=>ifB t68 (obind (z15 h_94 6 (z7 h_81)) fun t70=>callN (call 50 [.agg t70] h_94) fun r71 h_109=>obind (z1a r71) fun t71=>j72 t71 h_109) (j72 false h_94)) (k63 h_68)
noncomputable def zdb(call:zf)(t1:z11)(v3:AV)(k63:AHeap→R):Nat→AV→Int→AHeap→R:=zbd (fun _ _ _=>none) (z139 call t1 v3 k63)
theorem z1d7(call:zf)(t1:z11)(v3:AV)(k63:AHeap→R)(m:Nat):zdb call t1 v3 k63 (m+1)=z139 call t1 v3 k63 (zdb call t1 v3 k63 m):=rfl
noncomputable def z160(call:zf)(n:Nat)(t0:List AV)(t1:z11)(t2:AV)(h:AHeap):R:=
 outK (zdd h 34 (some (.agg t0))) fun v3 h_2=>
 obind (z58 0 v3) fun t14=>
 obind (z9 h_2 t14) fun v15=>
 obind (z2c .i64 v15) fun t15=>
 lett ((t15:Int) == 2) fun (t17:Bool)=>
 ifB t17
 (
  lett (fun (t6:Bool) (h_15:AHeap)=>
   some (.ret (.bool t6),h_15)) fun k14=>
  obind (ze8 1 t2 (z7b t1)) fun t20=>
  obind (z9 h_2 t20) fun v21=>
  obind (z1a v21) fun t21=>
  ifB t21
  (
   obind (z15 h_2 6 v3) fun t23=>
   callN (call 50 [.agg t23] h_2) fun r24 h_20=>
   obind (z1a r24) fun t24=>
   ifB t24
   (
    k14 true h_20)
   (
    lett (decide ((z7b t1)>0)) fun (t28:Bool)=>
    ifB t28
    (
     lett (IntKind.i64.wrap ((z7b t1) - 1)) fun (t32:Int)=>
     obind (ze8 1 t2 t32) fun t33=>
     obind (z9 h_20 t33) fun v34=>
     obind (z1a v34) fun t34=>
     ifB t34
     (
      obind (z58 1 v3) fun t37=>
      obind (z15 h_20 4 t37) fun t38=>
      lett (IntKind.i64.wrap ((z7b t1) - 1)) fun (t41:Int)=>
      obind (z1a2 t1 t41) fun t42=>
      callN (call 47 [.agg t38,.int .u8 t42] h_20) fun r43 h_32=>
      obind (z1a r43) fun t43=>
      k14 t43 h_32)
     (
      k14 false h_20))
    (
     k14 false h_20)))
  (
   lett (decide ((z7b t1)>0)) fun (t28_35:Bool)=>
   ifB t28_35
   (
    lett (IntKind.i64.wrap ((z7b t1) - 1)) fun (t32_37:Int)=>
    obind (ze8 1 t2 t32_37) fun t33_39=>
    obind (z9 h_2 t33_39) fun v34_41=>
    obind (z1a v34_41) fun t34_43=>
    ifB t34_43
    (
     obind (z58 1 v3) fun t37_45=>
     obind (z15 h_2 4 t37_45) fun t38_47=>
     lett (IntKind.i64.wrap ((z7b t1) - 1)) fun (t41_49:Int)=>
     obind (z1a2 t1 t41_49) fun t42_51=>
     callN (call 47 [.agg t38_47,.int .u8 t42_51] h_2) fun r43_53 h_54=>
     obind (z1a r43_53) fun t43_56=>
     k14 t43_56 h_54)
    (
     k14 false h_2))
   (
    k14 false h_2)))
 (
  lett ((t15:Int) == 3) fun (t47:Bool)=>
  ifB t47
  (
   lett (fun (h_64:AHeap)=>
    some (.ret (.bool false),h_64)) fun k63=>
   zdb call t1 v3 k63 n t2 0 h_2)
  (
   lett ((t15:Int) == 4) fun (t82:Bool)=>
   ifB t82
   (
    lett (fun (h_118:AHeap)=>
     some (.ret (.bool false),h_118)) fun k117=>
    z10c call t1 t2 v3 k117 n 0 h_2)
   (
    lett ((t15:Int) == 7) fun (t99:Bool)=>
    ifB t99
    (
     obind (ze8 1 t2 (z7b t1)) fun t102=>
     obind (z9 h_2 t102) fun v103=>
     obind (z1a v103) fun t103=>
     lett (fun (t112:Bool) (h_146:AHeap)=>
      some (.ret (.bool t112),h_146)) fun j112=>
     ifB t103
     (
      j112 true h_2)
     (
      obind (z58 5 v3) fun t105=>
      obind (z9 h_2 t105) fun v106=>
      obind (ze8 6 v106 0) fun t107=>
      obind (z15 h_2 6 t107) fun t108=>
      callN (call 34 [.agg t108,z12 t1,t2] h_2) fun r111 h_153=>
      obind (z1a r111) fun t111=>
      j112 t111 h_153))
    (
     lett ((t15:Int) == 5) fun (t114:Bool)=>
     ifB t114
     (
      obind (z58 5 v3) fun t115=>
      obind (z9 h_2 t115) fun v116=>
      obind (ze8 6 v116 0) fun t117=>
      obind (z15 h_2 6 t117) fun t118=>
      callN (call 49 [.agg t118,z12 t1,t2] h_2) fun r121 h_163=>
      obind (ze8 1 r121 (z7b t1)) fun t124=>
      obind (z9 h_163 t124) fun v125=>
      obind (z1a v125) fun t125=>
      lett (fun (t134:Bool) (h_169:AHeap)=>
       some (.ret (.bool t134),h_169)) fun j134=>
      ifB t125
      (
       j134 true h_163)
      (
       obind (z58 5 v3) fun t127=>
       obind (z9 h_163 t127) fun v128=>
       obind (ze8 6 v128 0) fun t129=>
       obind (z15 h_163 6 t129) fun t130=>
       callN (call 34 [.agg t130,z12 t1,r121] h_163) fun r133 h_176=>
       obind (z1a r133) fun t133=>
       j134 t133 h_176))
     (
      lett ((t15:Int) == 6) fun (t136:Bool)=>
      ifB t136
      (
       obind (z58 5 v3) fun t137=>
       obind (z9 h_2 t137) fun v138=>
       obind (ze8 6 v138 0) fun t139=>
       obind (z15 h_2 6 t139) fun t140=>
       obind (z58 5 v3) fun t142=>
       obind (z9 h_2 t142) fun v143=>
       obind (ze8 6 v143 0) fun t144=>
       obind (z15 h_2 6 t144) fun t145=>
       callN (call 49 [.agg t145,z12 t1,t2] h_2) fun r148 h_190=>
       chk (true&&(true&&(ze3 Pg h_190 34 t139 (.agg t140)&&(ze3 Pg h_190 32 t137 v138&&true))))<|
       callN (call 34 [.agg t140,z12 t1,r148] h_190) fun r149 h_193=>
       obind (z1a r149) fun t149=>
       some (.ret (.bool t149),h_193))
      (
       obind (ze8 1 t2 (z7b t1)) fun t152=>
       obind (z9 h_2 t152) fun v153=>
       obind (z1a v153) fun t153=>
       some (.ret (.bool t153),h_2)))))))
theorem z354{call:zf}(hc:SaysAll Pg call){n:Nat}{t0:List AV}{t1:z11}{t2:AV}{h:AHeap}{rR:ARes}{hR:AHeap}(z:z160 call n t0 t1 t2 h=some (rR,hR)):Says Pg 34 [.agg t0,z12 t1,t2] h rR hR:=by
 unfold z160 at z;refine sO Tryd.func34 fun w0 m0=>?_;refine wW [(0,.agg t0),(1,z12 t1),(2,t2)] ?_;refine oG fun n1=>W.r ?_;refine oK 3 z fun v3 h_2 z=>?_;refine oA 6 (.bool false) ?_;refine oV [(1,z12 t1),(2,t2),(3,v3)] (n1 ?_);refine oG fun n4=>W.r ?_;refine oA 12 (z12 t1) ?_;refine oA 13 (.int .i64 (z7b t1)) ?_;refine oA 7 (.int .i64 (z7b t1)) ?_;refine oV [(1,z12 t1),(2,t2),(3,v3),(7,.int .i64 (z7b t1))] (n4 ?_);refine oH fun n5 q5=>?_;refine oG fun n6=>W.r ?_;refine oF 14 34 0 z fun t14 z=>?_;refine oLi 15 3 z fun t15 z=>?_;refine oV [(1,z12 t1),(2,t2),(3,v3),(7,.int .i64 (z7b t1)),(15,.int .i64 t15)] (n6 ?_);refine ye (by kernel_rfl) (fun K10 n10 s10 o10 q10 p10=>?_);refine oG fun n11=>W.r ?_;refine oB 17 z fun t17 z=>?_;refine oA 16 (.bool t17) ?_;refine oV [(1,z12 t1),(2,t2),(3,v3),(7,.int .i64 (z7b t1)),(15,.int .i64 t15),(16,.bool t17)] (n11 ?_)
 cases t17 with
 |true=>
  refine oT z fun z=>?_;refine W.s (fun K13 n13 _ _ _=>?_);obtain⟨k14,e14,z⟩:=lS z
  have J14:∀(t6:Bool) (h_15:AHeap),k14 t6 h_15=some (rR,hR)→Go w0 m0 (Func.ntmps Tryd.f34) (K13 .normal) [(6,.bool t6)] [] h_15:=by
   intro t6 h_15 z;rw[e14] at z;refine n13 (oY (q10 (q5 ?_)));exact lZ z [.tmp 6] [.bool t6] (rT zd)
  refine y26 (by kernel_rfl) (hc.ok w0) (plan:=[0,1,2,3,4,5,6,7,8,9,10,11,12,13,14,15,16,17,18,19,20,21,22,23,24,25,26,27,28]) (by kernel_rfl) (by kernel_rfl) (by kernel_rfl) ?_;refine WD.a 0 (some 18) t2 h_2 ?_;refine WD.a 0 (some 19) (.int .i64 (z7b t1)) h_2 ?_;obtain⟨t20,e16,z⟩:=oS z;refine WD.b 0 (some 20) t20 h_2 (za8 (P:=Pg) (h:=h_2) (t:=50) (e':=4) (k:=.i64) (by kernel_rfl) (by kernel_rfl) (by kernel_rfl) e16) ?_
  replace z:=oS z;obtain⟨v21,e17,z⟩:=z
  replace z:=oS z;obtain⟨t21,c18,z⟩:=z
  have c18:=z24 c18;subst c18;refine WD.b 1 (some 21) (.bool t21) h_2 (z1f (P:=Pg) (h:=h_2) (t:=4) (by kernel_rfl) e17) ?_;refine WD.a 0 (some 22) (.bool t21) h_2 ?_
  cases t21 with
  |true=>
   replace z:=z8f z
   obtain⟨t23,e19,z⟩:=oS z;refine WD.b 1 (some 23) (.agg t23) h_2 (z64 (P:=Pg) (h:=h_2) (t:=34) (by kernel_rfl) (by kernel_rfl) e19) ?_
   replace z:=z2a z;obtain⟨r24,h_20,e21,z⟩:=z
   replace z:=oS z;obtain⟨t24,c22,z⟩:=z
   have c22:=z24 c22;subst c22;refine WD.call (d:=(some 24)) (by kernel_rfl) (by kernel_rfl) (by kernel_rfl) e21 (k:=2) (by kernel_rfl) (fun _=>(by kernel_rfl)) (by decide) ?_;refine WD.a 0 (some 25) (.bool t24) h_20 ?_;refine WD.a 0 (some 26) (.bool t24) h_20 ?_
   cases t24 with
   |true=>
    replace z:=z8f z
    refine oD 0 (some 27) ?_;refine oD 0 (some 28) ?_;refine oD 0 (some 29) ?_;refine oD 0 (some 30) ?_;refine oD 0 (some 31) ?_;refine oD 0 (some 32) ?_;refine oD 0 (some 33) ?_;refine oD 1 (some 34) ?_;refine oD 0 (some 35) ?_;refine oD 0 (some 36) ?_;refine oD 0 (some 37) ?_;refine oD 1 (some 38) ?_;refine oD 0 (some 39) ?_;refine oD 0 (some 40) ?_;refine oD 0 (some 41) ?_;refine oD 0 (some 42) ?_;refine WD.not (d:=(some 43)) (by kernel_rfl) (by kernel_rfl) (k:=2) (by kernel_rfl) (fun _=>(by kernel_rfl)) (by decide) ?_;refine oD 0 (some 44) ?_;refine WD.a 0 (some 45) (.bool true) h_20 ?_;refine WD.a 0 (some 6) (.bool true) h_20 ?_;refine WD.nil ?_;exact gW _ (J14 _ _ z)
   |false=>
    replace z:=z90 z
    refine WD.a 0 (some 27) (.int .i64 (z7b t1)) h_20 ?_;obtain⟨t28,e23,z⟩:=lS z;refine WD.val (d:=(some 28)) (v:=.bool t28) (h':=h_20) (by kernel_rfl) (by kernel_rfl) (zb4 AV.bool e23 (by kernel_rfl)) (k:=0) (by kernel_rfl) (fun e=>absurd e (by decide)) (by decide) ?_;refine WD.a 0 (some 29) (.bool t28) h_20 ?_
    cases t28 with
    |true=>
     replace z:=z8f z
     refine WD.a 0 (some 30) t2 h_20 ?_;refine WD.a 0 (some 31) (.int .i64 (z7b t1)) h_20 ?_;obtain⟨t32,e24,z⟩:=lS z;refine WD.val (d:=(some 32)) (v:=.int .i64 t32) (h':=h_20) (by kernel_rfl) (by kernel_rfl) (zb4 (AV.int .i64) e24 (by kernel_rfl)) (k:=0) (by kernel_rfl) (fun e=>absurd e (by decide)) (by decide) ?_;obtain⟨t33,e25,z⟩:=oS z;refine WD.b 0 (some 33) t33 h_20 (za8 (P:=Pg) (h:=h_20) (t:=50) (e':=4) (k:=.i64) (by kernel_rfl) (by kernel_rfl) (by kernel_rfl) e25) ?_
     replace z:=oS z;obtain⟨v34,e26,z⟩:=z
     replace z:=oS z;obtain⟨t34,c27,z⟩:=z
     have c27:=z24 c27;subst c27;refine WD.b 1 (some 34) (.bool t34) h_20 (z1f (P:=Pg) (h:=h_20) (t:=4) (by kernel_rfl) e26) ?_;refine WD.a 0 (some 35) (.bool t34) h_20 ?_;refine WD.a 0 (some 36) (.bool t34) h_20 ?_
     cases t34 with
     |true=>
      replace z:=z8f z
      obtain⟨t37,e28,z⟩:=oS z;refine WD.b 0 (some 37) t37 h_20 (z33 (P:=Pg) (h:=h_20) (s:=34) (f:=1) (by kernel_rfl) e28) ?_;obtain⟨t38,e29,z⟩:=oS z;refine WD.b 1 (some 38) (.agg t38) h_20 (z64 (P:=Pg) (h:=h_20) (t:=31) (by kernel_rfl) (by kernel_rfl) e29) ?_;refine WD.a 0 (some 39) (z12 t1) h_20 ?_;refine WD.a 0 (some 40) (.int .i64 (z7b t1)) h_20 ?_;obtain⟨t41,e30,z⟩:=lS z;refine WD.val (d:=(some 41)) (v:=.int .i64 t41) (h':=h_20) (by kernel_rfl) (by kernel_rfl) (zb4 (AV.int .i64) e30 (by kernel_rfl)) (k:=0) (by kernel_rfl) (fun e=>absurd e (by decide)) (by decide) ?_;obtain⟨t42,e31,z⟩:=oS z;refine WD.b 0 (some 42) (.int .u8 t42) h_20 (z1a1 (P:=Pg) (h:=h_20) (t:=9) (k:=.i64) (by kernel_rfl) e31) ?_
      replace z:=z2a z;obtain⟨r43,h_32,e33,z⟩:=z
      replace z:=oS z;obtain⟨t43,c34,z⟩:=z
      have c34:=z24 c34;subst c34;refine WD.call (d:=(some 43)) (by kernel_rfl) (by kernel_rfl) (by kernel_rfl) e33 (k:=2) (by kernel_rfl) (fun _=>(by kernel_rfl)) (by decide) ?_;refine WD.a 0 (some 44) (.bool t43) h_32 ?_;refine WD.a 0 (some 45) (.bool t43) h_32 ?_;refine WD.a 0 (some 6) (.bool t43) h_32 ?_;refine WD.nil ?_;exact gW _ (J14 _ _ z)
     |false=>
      replace z:=z90 z
      refine oD 0 (some 37) ?_;refine oD 1 (some 38) ?_;refine oD 0 (some 39) ?_;refine oD 0 (some 40) ?_;refine oD 0 (some 41) ?_;refine oD 0 (some 42) ?_;refine WD.not (d:=(some 43)) (by kernel_rfl) (by kernel_rfl) (k:=2) (by kernel_rfl) (fun _=>(by kernel_rfl)) (by decide) ?_;refine WD.a 0 (some 44) (.bool false) h_20 ?_;refine WD.a 0 (some 45) (.bool false) h_20 ?_;refine WD.a 0 (some 6) (.bool false) h_20 ?_;refine WD.nil ?_;exact gW _ (J14 _ _ z)
    |false=>
     replace z:=z90 z
     refine oD 0 (some 30) ?_;refine oD 0 (some 31) ?_;refine oD 0 (some 32) ?_;refine oD 0 (some 33) ?_;refine oD 1 (some 34) ?_;refine WD.a 0 (some 35) (.bool false) h_20 ?_;refine WD.a 0 (some 36) (.bool false) h_20 ?_;refine oD 0 (some 37) ?_;refine oD 1 (some 38) ?_;refine oD 0 (some 39) ?_;refine oD 0 (some 40) ?_;refine oD 0 (some 41) ?_;refine oD 0 (some 42) ?_;refine WD.not (d:=(some 43)) (by kernel_rfl) (by kernel_rfl) (k:=2) (by kernel_rfl) (fun _=>(by kernel_rfl)) (by decide) ?_;refine WD.a 0 (some 44) (.bool false) h_20 ?_;refine WD.a 0 (some 45) (.bool false) h_20 ?_;refine WD.a 0 (some 6) (.bool false) h_20 ?_;refine WD.nil ?_;exact gW _ (J14 _ _ z)
  |false=>
   replace z:=z90 z
   refine oD 1 (some 23) ?_;refine WD.not (d:=(some 24)) (by kernel_rfl) (by kernel_rfl) (k:=2) (by kernel_rfl) (fun _=>(by kernel_rfl)) (by decide) ?_;refine WD.a 0 (some 25) (.bool false) h_2 ?_;refine WD.a 0 (some 26) (.bool false) h_2 ?_;refine WD.a 0 (some 27) (.int .i64 (z7b t1)) h_2 ?_;obtain⟨t28_35,e36,z⟩:=lS z;refine WD.val (d:=(some 28)) (v:=.bool t28_35) (h':=h_2) (by kernel_rfl) (by kernel_rfl) (zb4 AV.bool e36 (by kernel_rfl)) (k:=0) (by kernel_rfl) (fun e=>absurd e (by decide)) (by decide) ?_;refine WD.a 0 (some 29) (.bool t28_35) h_2 ?_
   cases t28_35 with
   |true=>
    replace z:=z8f z
    refine WD.a 0 (some 30) t2 h_2 ?_;refine WD.a 0 (some 31) (.int .i64 (z7b t1)) h_2 ?_;obtain⟨t32_37,e38,z⟩:=lS z;refine WD.val (d:=(some 32)) (v:=.int .i64 t32_37) (h':=h_2) (by kernel_rfl) (by kernel_rfl) (zb4 (AV.int .i64) e38 (by kernel_rfl)) (k:=0) (by kernel_rfl) (fun e=>absurd e (by decide)) (by decide) ?_;obtain⟨t33_39,e40,z⟩:=oS z;refine WD.b 0 (some 33) t33_39 h_2 (za8 (P:=Pg) (h:=h_2) (t:=50) (e':=4) (k:=.i64) (by kernel_rfl) (by kernel_rfl) (by kernel_rfl) e40) ?_
    replace z:=oS z;obtain⟨v34_41,e42,z⟩:=z
    replace z:=oS z;obtain⟨t34_43,c44,z⟩:=z
    have c44:=z24 c44;subst c44;refine WD.b 1 (some 34) (.bool t34_43) h_2 (z1f (P:=Pg) (h:=h_2) (t:=4) (by kernel_rfl) e42) ?_;refine WD.a 0 (some 35) (.bool t34_43) h_2 ?_;refine WD.a 0 (some 36) (.bool t34_43) h_2 ?_
    cases t34_43 with
    |true=>
     replace z:=z8f z
     obtain⟨t37_45,e46,z⟩:=oS z;refine WD.b 0 (some 37) t37_45 h_2 (z33 (P:=Pg) (h:=h_2) (s:=34) (f:=1) (by kernel_rfl) e46) ?_;obtain⟨t38_47,e48,z⟩:=oS z;refine WD.b 1 (some 38) (.agg t38_47) h_2 (z64 (P:=Pg) (h:=h_2) (t:=31) (by kernel_rfl) (by kernel_rfl) e48) ?_;refine WD.a 0 (some 39) (z12 t1) h_2 ?_;refine WD.a 0 (some 40) (.int .i64 (z7b t1)) h_2 ?_;obtain⟨t41_49,e50,z⟩:=lS z;refine WD.val (d:=(some 41)) (v:=.int .i64 t41_49) (h':=h_2) (by kernel_rfl) (by kernel_rfl) (zb4 (AV.int .i64) e50 (by kernel_rfl)) (k:=0) (by kernel_rfl) (fun e=>absurd e (by decide)) (by decide) ?_;obtain⟨t42_51,e52,z⟩:=oS z;refine WD.b 0 (some 42) (.int .u8 t42_51) h_2 (z1a1 (P:=Pg) (h:=h_2) (t:=9) (k:=.i64) (by kernel_rfl) e52) ?_
     replace z:=z2a z;obtain⟨r43_53,h_54,e55,z⟩:=z
     replace z:=oS z;obtain⟨t43_56,c57,z⟩:=z
     have c57:=z24 c57;subst c57;refine WD.call (d:=(some 43)) (by kernel_rfl) (by kernel_rfl) (by kernel_rfl) e55 (k:=2) (by kernel_rfl) (fun _=>(by kernel_rfl)) (by decide) ?_;refine WD.a 0 (some 44) (.bool t43_56) h_54 ?_;refine WD.a 0 (some 45) (.bool t43_56) h_54 ?_;refine WD.a 0 (some 6) (.bool t43_56) h_54 ?_;refine WD.nil ?_;exact gW _ (J14 _ _ z)
    |false=>
     replace z:=z90 z
     refine oD 0 (some 37) ?_;refine oD 1 (some 38) ?_;refine oD 0 (some 39) ?_;refine oD 0 (some 40) ?_;refine oD 0 (some 41) ?_;refine oD 0 (some 42) ?_;refine WD.not (d:=(some 43)) (by kernel_rfl) (by kernel_rfl) (k:=2) (by kernel_rfl) (fun _=>(by kernel_rfl)) (by decide) ?_;refine WD.a 0 (some 44) (.bool false) h_2 ?_;refine WD.a 0 (some 45) (.bool false) h_2 ?_;refine WD.a 0 (some 6) (.bool false) h_2 ?_;refine WD.nil ?_;exact gW _ (J14 _ _ z)
   |false=>
    replace z:=z90 z
    refine oD 0 (some 30) ?_;refine oD 0 (some 31) ?_;refine oD 0 (some 32) ?_;refine oD 0 (some 33) ?_;refine oD 1 (some 34) ?_;refine WD.a 0 (some 35) (.bool false) h_2 ?_;refine WD.a 0 (some 36) (.bool false) h_2 ?_;refine oD 0 (some 37) ?_;refine oD 1 (some 38) ?_;refine oD 0 (some 39) ?_;refine oD 0 (some 40) ?_;refine oD 0 (some 41) ?_;refine oD 0 (some 42) ?_;refine WD.not (d:=(some 43)) (by kernel_rfl) (by kernel_rfl) (k:=2) (by kernel_rfl) (fun _=>(by kernel_rfl)) (by decide) ?_;refine WD.a 0 (some 44) (.bool false) h_2 ?_;refine WD.a 0 (some 45) (.bool false) h_2 ?_;refine WD.a 0 (some 6) (.bool false) h_2 ?_;refine WD.nil ?_;exact gW _ (J14 _ _ z)
 |false=>
  refine oU z fun z=>?_;refine oG fun n58=>W.r ?_;refine oB 47 z fun t47 z=>?_;refine oA 46 (.bool t47) ?_;refine oV [(1,z12 t1),(2,t2),(3,v3),(7,.int .i64 (z7b t1)),(15,.int .i64 t15),(46,.bool t47)] (n58 ?_)
  cases t47 with
  |true=>
   refine oT z fun z=>?_;refine W.s (fun K60 n60 _ q60 _=>?_);refine oG fun n61=>W.r ?_;refine oA 8 (.int .i64 0) ?_;refine oV [(1,z12 t1),(2,t2),(3,v3),(8,.int .i64 0)] (n61 ?_);obtain⟨k63,e63,z⟩:=lS z
   have J63:∀(h_64:AHeap),k63 h_64=some (rR,hR)→Go w0 m0 (Func.ntmps Tryd.f34) (K60 .normal) [] [] h_64:=by
    intro h_64 z;rw[e63] at z;refine n60 ?_;refine oG fun n65=>W.r ?_;refine oA 6 (.bool false) ?_;refine oV [(6,.bool false)] (n65 (oY (q10 (q5 ?_))));exact lZ z [.tmp 6] [.bool false] (rT zd)
   refine ye (by kernel_rfl) (fun K62 n62 s62 o62 q62 p62=>?_);refine y17 (by kernel_rfl) (fun I66 K66 b66 n66 e66 q66 p66=>?_)
   have L66:∀(m:Nat) (t2_67:AV) (t8:Int) (h_68:AHeap),zdb call t1 v3 k63 m t2_67 t8 h_68=some (rR,hR)→Go w0 m0 (Func.ntmps Tryd.f34) I66 [(1,z12 t1),(2,t2_67),(3,v3),(8,.int .i64 t8)] [] h_68:=by
    intro m
    induction m with
    |zero=>intro t2_67 t8 h_68 z;cases z
    |succ m ih66=>
     intro t2_67 t8 h_68 z;rw[z1d7] at z;unfold z139 at z;refine b66 ?_;refine W.s (fun _ n69 e69 _ _=>?_);refine oG fun n70=>W.r ?_;refine oA 48 (.int .i64 t8) ?_;refine oF 49 34 2 z fun t49 z=>?_;refine oL 50 32 z fun v50 z=>?_;refine oM 51 32 34 z fun t51 z=>?_;refine oB 52 z fun t52 z=>?_;refine oV [(1,z12 t1),(2,t2_67),(3,v3),(8,.int .i64 t8),(52,.bool t52)] (n70 ?_)
     cases t52 with
     |true=>
      refine oT z fun z=>?_;refine oZ (n69 ?_);refine oH fun n75 q75=>?_;refine ye (by kernel_rfl) (fun K76 n76 s76 o76 q76 p76=>?_);refine oG fun n77=>W.r ?_;refine oF 55 34 2 z fun t55 z=>?_;refine oL 56 32 z fun v56 z=>?_;refine oA 57 (.int .i64 t8) ?_;refine oI 58 .i64 z fun t58 z=>?_;refine oK 59 z fun v59 h_81 z=>?_;obtain⟨t60,e83,z⟩:=oS z;refine WL.val (d:=(some 60)) (v:=.agg t60) (h':=h_81) (by kernel_rfl) (by kernel_rfl) (z1ef (by kernel_rfl) e83) ?_;refine oN 9 z fun h_84 z=>?_;refine oW 34 (.agg t60) z fun h_86 z=>?_;refine oV [(1,z12 t1),(2,t2_67),(3,v3),(8,.int .i64 t8),(9,z7 h_81)] (n77 ?_);refine oH fun n88 q88=>?_;refine W.s (fun K89 n89 _ _ _=>?_);refine W.r ?_;refine oF 61 34 2 z fun t61 z=>?_;refine oL 62 32 z fun v62 z=>?_;refine oA 63 (.int .i64 t8) ?_;refine oP 64 32 34 .i64 z fun t64 z=>?_;refine oR 65 34 z fun t65 z=>?_;refine oA 66 (z12 t1) ?_;refine oA 67 t2_67 ?_;refine oCb hc 68 z fun t68 h_94 z=>?_;refine oA 69 (.bool t68) ?_;obtain⟨j72,e98,z⟩:=lS z
      have J99:∀(t72:Bool) (h_97:AHeap),j72 t72 h_97=some (rR,hR)→WL Pg w0 m0 (Func.ntmps Tryd.f34) (y13 (y9 (y9 (y6 (y9 (y9 (y6 (y9 (y9 (y6 (y9 (y9 (y6 (y6 (y6 (y9 (y6 (y9 (y6 (y6 (z5f Tryd.f34))))))))))))))))))))) 12 K89 [(1,z12 t1),(2,t2_67),(3,v3),(8,.int .i64 t8),(72,.bool t72)] [] h_97:=by
       intro t72 h_97 z;rw[e98] at z;refine oV [(1,z12 t1),(2,t2_67),(3,v3),(8,.int .i64 t8),(72,.bool t72)] (n89 ?_)
       cases t72 with
       |true=>
        refine oT z fun z=>?_;refine oG fun n100=>W.r ?_;refine oA 6 (.bool true) ?_;refine oV [(6,.bool true)] (n100 (oY (q88 (q76 (q75 (q66 (q62 (q60 (q10 (q5 ?_))))))))));exact lZ z [.tmp 6] [.bool true] (rT zd)
       |false=>
        refine oU z fun z=>?_;refine oZ (n88 (W.r ?_));refine oF 73 34 2 z fun t73 z=>?_;refine oL 74 32 z fun v74 z=>?_;refine oA 75 (.int .i64 t8) ?_;refine oP 76 32 34 .i64 z fun t76 z=>?_;refine oR 77 34 z fun t77 z=>?_;refine oA 78 (z12 t1) ?_;refine oA 79 t2_67 ?_;refine oC hc (some 80) z fun r80 h_105 z=>?_;refine oA 2 r80 ?_;refine oV [(1,z12 t1),(2,r80),(3,v3),(8,.int .i64 t8)] (n76 (n75 (W.r ?_)));refine oA 53 (.int .i64 t8) ?_;refine oI 54 .i64 z fun t54 z=>?_;refine oA 8 (.int .i64 t54) ?_;refine oV [(1,z12 t1),(2,r80),(3,v3),(8,.int .i64 t54)] (n66 ?_);exact gW _ (ih66 _ _ _ z)
      cases t68 with
      |true=>
       replace z:=z8f z
       refine oR 70 34 z fun t70 z=>?_;refine oCb hc 71 z fun t71 h_109 z=>?_;refine oA 72 (.bool t71) ?_;exact lW _ (J99 _ _ z)
      |false=>
       replace z:=z90 z
       refine WL.o (some 70) ?_;refine WL.o (some 71) ?_;refine oA 72 (.bool false) ?_;exact lW _ (J99 _ _ z)
     |false=>
      refine oU z fun z=>?_;refine W.exit (by kernel_rfl) ?_;refine e69 (e66 ?_);refine s62 (by kernel_rfl) ?_;exact gW _ (J63 _ z)
   exact gW _ (L66 _ _ _ _ z)
  |false=>
   refine oU z fun z=>?_;refine oG fun n112=>W.r ?_;refine oB 82 z fun t82 z=>?_;refine oA 81 (.bool t82) ?_;refine oV [(1,z12 t1),(2,t2),(3,v3),(7,.int .i64 (z7b t1)),(15,.int .i64 t15),(81,.bool t82)] (n112 ?_)
   cases t82 with
   |true=>
    refine oT z fun z=>?_;refine W.s (fun K114 n114 _ q114 _=>?_);refine oG fun n115=>W.r ?_;refine oA 10 (.int .i64 0) ?_;refine oV [(1,z12 t1),(2,t2),(3,v3),(10,.int .i64 0)] (n115 ?_);obtain⟨k117,e117,z⟩:=lS z
    have J117:∀(h_118:AHeap),k117 h_118=some (rR,hR)→Go w0 m0 (Func.ntmps Tryd.f34) (K114 .normal) [] [] h_118:=by
     intro h_118 z;rw[e117] at z;refine n114 ?_;refine oG fun n119=>W.r ?_;refine oA 6 (.bool false) ?_;refine oV [(6,.bool false)] (n119 (oY (q10 (q5 ?_))));exact lZ z [.tmp 6] [.bool false] (rT zd)
    refine ye (by kernel_rfl) (fun K116 n116 s116 o116 q116 p116=>?_);refine y17 (by kernel_rfl) (fun I120 K120 b120 n120 e120 q120 p120=>?_)
    have L120:∀(m:Nat) (t10:Int) (h_121:AHeap),z10c call t1 t2 v3 k117 m t10 h_121=some (rR,hR)→Go w0 m0 (Func.ntmps Tryd.f34) I120 [(1,z12 t1),(2,t2),(3,v3),(10,.int .i64 t10)] [] h_121:=by
     intro m
     induction m with
     |zero=>intro t10 h_121 z;cases z
     |succ m ih120=>
      intro t10 h_121 z;rw[z1d6] at z;unfold z138 at z;refine b120 ?_;refine W.s (fun _ n122 e122 _ _=>?_);refine oG fun n123=>W.r ?_;refine oA 83 (.int .i64 t10) ?_;refine oF 84 34 2 z fun t84 z=>?_;refine oL 85 32 z fun v85 z=>?_;refine oM 86 32 34 z fun t86 z=>?_;refine oB 87 z fun t87 z=>?_;refine oV [(1,z12 t1),(2,t2),(3,v3),(10,.int .i64 t10),(87,.bool t87)] (n123 ?_)
      cases t87 with
      |true=>
       refine oT z fun z=>?_;refine oZ (n122 ?_);refine oH fun n128 q128=>?_;refine ye (by kernel_rfl) (fun K129 n129 s129 o129 q129 p129=>?_);refine oG fun n130=>W.r ?_;refine oF 90 34 2 z fun t90 z=>?_;refine oL 91 32 z fun v91 z=>?_;refine oA 92 (.int .i64 t10) ?_;refine oP 93 32 34 .i64 z fun t93 z=>?_;refine oR 94 34 z fun t94 z=>?_;refine oA 95 (z12 t1) ?_;refine oA 96 t2 ?_;refine oCb hc 97 z fun t97 h_135 z=>?_;refine oV [(1,z12 t1),(2,t2),(3,v3),(10,.int .i64 t10),(97,.bool t97)] (n130 ?_)
       cases t97 with
       |true=>
        refine oT z fun z=>?_;refine oG fun n138=>W.r ?_;refine oA 6 (.bool true) ?_;refine oV [(6,.bool true)] (n138 (oY (q129 (q128 (q120 (q116 (q114 (q10 (q5 ?_)))))))));exact lZ z [.tmp 6] [.bool true] (rT zd)
       |false=>
        refine oU z fun z=>?_;refine oZ (n129 (n128 (W.r ?_)));refine oA 88 (.int .i64 t10) ?_;refine oI 89 .i64 z fun t89 z=>?_;refine oA 10 (.int .i64 t89) ?_;refine oV [(1,z12 t1),(2,t2),(3,v3),(10,.int .i64 t89)] (n120 ?_);exact gW _ (ih120 _ _ z)
      |false=>
       refine oU z fun z=>?_;refine W.exit (by kernel_rfl) ?_;refine e122 (e120 ?_);refine s116 (by kernel_rfl) ?_;exact gW _ (J117 _ z)
    exact gW _ (L120 _ _ _ z)
   |false=>
    refine oU z fun z=>?_;refine oG fun n140=>W.r ?_;refine oB 99 z fun t99 z=>?_;refine oA 98 (.bool t99) ?_;refine oV [(1,z12 t1),(2,t2),(3,v3),(7,.int .i64 (z7b t1)),(15,.int .i64 t15),(98,.bool t99)] (n140 ?_)
    cases t99 with
    |true=>
     refine oT z fun z=>?_;refine W.s (fun K142 n142 _ _ _=>?_);refine W.r ?_;refine oA 100 t2 ?_;refine oA 101 (.int .i64 (z7b t1)) ?_;refine oP 102 50 4 .i64 z fun t102 z=>?_;refine oLb 103 4 z fun t103 z=>?_;refine oA 104 (.bool t103) ?_;obtain⟨j112,e147,z⟩:=lS z
     have J148:∀(t112:Bool) (h_146:AHeap),j112 t112 h_146=some (rR,hR)→WL Pg w0 m0 (Func.ntmps Tryd.f34) (y13 (y9 (y9 (y6 (y6 (y6 (y6 (y6 (y6 (y6 (y9 (y6 (y9 (y6 (y6 (z5f Tryd.f34)))))))))))))))) 13 K142 [(112,.bool t112)] [] h_146:=by
      intro t112 h_146 z;rw[e147] at z;refine oA 6 (.bool t112) ?_;refine oV [(6,.bool t112)] (n142 (oY (q10 (q5 ?_))));exact lZ z [.tmp 6] [.bool t112] (rT zd)
     cases t103 with
     |true=>
      replace z:=z8f z
      refine WL.o (some 105) ?_;refine WL.o (some 106) ?_;refine WL.o (some 107) ?_;refine WL.o (some 108) ?_;refine WL.o (some 109) ?_;refine WL.o (some 110) ?_;refine WL.o (some 111) ?_;refine oA 112 (.bool true) ?_;exact lW _ (J148 _ _ z)
     |false=>
      replace z:=z90 z
      refine oF 105 34 2 z fun t105 z=>?_;refine oL 106 32 z fun v106 z=>?_;refine oP 107 32 34 .i64 z fun t107 z=>?_;refine oR 108 34 z fun t108 z=>?_;refine oA 109 (z12 t1) ?_;refine oA 110 t2 ?_;refine oCb hc 111 z fun t111 h_153 z=>?_;refine oA 112 (.bool t111) ?_;exact lW _ (J148 _ _ z)
    |false=>
     refine oU z fun z=>?_;refine oG fun n156=>W.r ?_;refine oB 114 z fun t114 z=>?_;refine oA 113 (.bool t114) ?_;refine oV [(1,z12 t1),(2,t2),(3,v3),(7,.int .i64 (z7b t1)),(15,.int .i64 t15),(113,.bool t114)] (n156 ?_)
     cases t114 with
     |true=>
      refine oT z fun z=>?_;refine oG fun n158=>W.r ?_;refine oF 115 34 2 z fun t115 z=>?_;refine oL 116 32 z fun v116 z=>?_;refine oP 117 32 34 .i64 z fun t117 z=>?_;refine oR 118 34 z fun t118 z=>?_;refine oA 119 (z12 t1) ?_;refine oA 120 t2 ?_;refine oC hc (some 121) z fun r121 h_163 z=>?_;refine oA 11 r121 ?_;refine oV [(1,z12 t1),(3,v3),(7,.int .i64 (z7b t1)),(11,r121)] (n158 ?_);refine W.s (fun K165 n165 _ _ _=>?_);refine W.r ?_;refine oA 122 r121 ?_;refine oA 123 (.int .i64 (z7b t1)) ?_;refine oP 124 50 4 .i64 z fun t124 z=>?_;refine oLb 125 4 z fun t125 z=>?_;refine oA 126 (.bool t125) ?_;obtain⟨j134,e170,z⟩:=lS z
      have J171:∀(t134:Bool) (h_169:AHeap),j134 t134 h_169=some (rR,hR)→WL Pg w0 m0 (Func.ntmps Tryd.f34) (y13 (y9 (y6 (y9 (y6 (y6 (y6 (y6 (y6 (y6 (y6 (y6 (y6 (y9 (y6 (y9 (y6 (y6 (z5f Tryd.f34))))))))))))))))))) 13 K165 [(134,.bool t134)] [] h_169:=by
       intro t134 h_169 z;rw[e170] at z;refine oA 6 (.bool t134) ?_;refine oV [(6,.bool t134)] (n165 (oY (q10 (q5 ?_))));exact lZ z [.tmp 6] [.bool t134] (rT zd)
      cases t125 with
      |true=>
       replace z:=z8f z
       refine WL.o (some 127) ?_;refine WL.o (some 128) ?_;refine WL.o (some 129) ?_;refine WL.o (some 130) ?_;refine WL.o (some 131) ?_;refine WL.o (some 132) ?_;refine WL.o (some 133) ?_;refine oA 134 (.bool true) ?_;exact lW _ (J171 _ _ z)
      |false=>
       replace z:=z90 z
       refine oF 127 34 2 z fun t127 z=>?_;refine oL 128 32 z fun v128 z=>?_;refine oP 129 32 34 .i64 z fun t129 z=>?_;refine oR 130 34 z fun t130 z=>?_;refine oA 131 (z12 t1) ?_;refine oA 132 r121 ?_;refine oCb hc 133 z fun t133 h_176 z=>?_;refine oA 134 (.bool t133) ?_;exact lW _ (J171 _ _ z)
     |false=>
      refine oU z fun z=>?_;refine oG fun n179=>W.r ?_;refine oB 136 z fun t136 z=>?_;refine oA 135 (.bool t136) ?_;refine oV [(1,z12 t1),(2,t2),(3,v3),(7,.int .i64 (z7b t1)),(135,.bool t136)] (n179 ?_)
      cases t136 with
      |true=>
       refine oT z fun z=>?_;refine oG fun n181=>?_;refine y26 (by kernel_rfl) (hc.ok w0) (plan:=[0,1,2,3,4,5,6,7,8,9,10,11,12,13]) (by kernel_rfl) (by kernel_rfl) (by kernel_rfl) ?_;obtain⟨t137,e182,z⟩:=oS z;refine WD.b 0 (some 137) t137 h_2 (z33 (P:=Pg) (h:=h_2) (s:=34) (f:=2) (by kernel_rfl) e182) ?_;obtain⟨v138,e183,z⟩:=oS z;refine WD.b 1 (some 138) v138 h_2 (z1f (P:=Pg) (h:=h_2) (t:=32) (by kernel_rfl) e183) ?_;obtain⟨t139,e184,z⟩:=oS z;refine WD.b 0 (some 139) t139 h_2 (za8 (P:=Pg) (h:=h_2) (t:=32) (e':=34) (k:=.i64) (by kernel_rfl) (by kernel_rfl) (by kernel_rfl) e184) ?_;obtain⟨t140,e185,z⟩:=oS z;refine WD.b 1 (some 140) (.agg t140) h_2 (z64 (P:=Pg) (h:=h_2) (t:=34) (by kernel_rfl) (by kernel_rfl) e185) ?_;refine WD.a 0 (some 141) (z12 t1) h_2 ?_;obtain⟨t142,e186,z⟩:=oS z;refine WD.b 0 (some 142) t142 h_2 (z33 (P:=Pg) (h:=h_2) (s:=34) (f:=2) (by kernel_rfl) e186) ?_;obtain⟨v143,e187,z⟩:=oS z;refine WD.b 1 (some 143) v143 h_2 (z1f (P:=Pg) (h:=h_2) (t:=32) (by kernel_rfl) e187) ?_;obtain⟨t144,e188,z⟩:=oS z;refine WD.b 0 (some 144) t144 h_2 (za8 (P:=Pg) (h:=h_2) (t:=32) (e':=34) (k:=.i64) (by kernel_rfl) (by kernel_rfl) (by kernel_rfl) e188) ?_;obtain⟨t145,e189,z⟩:=oS z;refine WD.b 1 (some 145) (.agg t145) h_2 (z64 (P:=Pg) (h:=h_2) (t:=34) (by kernel_rfl) (by kernel_rfl) e189) ?_;refine WD.a 0 (some 146) (z12 t1) h_2 ?_;refine WD.a 0 (some 147) t2 h_2 ?_;obtain⟨r148,h_190,e191,z⟩:=z2a z;obtain⟨k192,z⟩:=z120 z;refine WD.call (d:=(some 148)) (by kernel_rfl) (by kernel_rfl) (by kernel_rfl) e191 (k:=2) (by kernel_rfl) (fun _=>(Eq.trans (by kernel_rfl) k192)) (by decide) ?_
       replace z:=z2a z;obtain⟨r149,h_193,e194,z⟩:=z
       replace z:=oS z;obtain⟨t149,c195,z⟩:=z
       have c195:=z24 c195;subst c195;refine WD.call (d:=(some 149)) (by kernel_rfl) (by kernel_rfl) (by kernel_rfl) e194 (k:=2) (by kernel_rfl) (fun _=>(by kernel_rfl)) (by decide) ?_;refine WD.a 0 (some 6) (.bool t149) h_193 ?_;refine WD.nil ?_;refine gW [(6,.bool t149)] (n181 (oY (q10 (q5 ?_))));exact lZ z [.tmp 6] [.bool t149] (rT zd)
      |false=>
       refine oU z fun z=>?_;refine oZ (n10 (n5 ?_));refine oG fun n196=>W.r ?_;refine oA 150 t2 ?_;refine oA 151 (.int .i64 (z7b t1)) ?_;refine oP 152 50 4 .i64 z fun t152 z=>?_;refine oLb 153 4 z fun t153 z=>?_;refine oA 6 (.bool t153) ?_;refine oV [(6,.bool t153)] (n196 (oY ?_));exact lZ z [.tmp 6] [.bool t153] (rT zd)
noncomputable def z12d(call:zf)(_:Nat)(t0:List AV)(t1:z11)(h:AHeap):R:=
 outK (zdd h 34 (some (.agg t0))) fun v2 h_2=>
 obind (z15 h_2 6 v2) fun t5=>
 callN (call 32 [z12 t1] h_2) fun r8 h_6=>
 chk (ze3 Pg h_6 34 v2 (.agg t5)&&true)<|
 callN (call 34 [.agg t5,z12 t1,r8] h_6) fun r9 h_9=>
 obind (z1a r9) fun t9=>
 lett (!t9) fun (t10:Bool)=>
 some (.ret (.bool t10),h_9)
theorem z359{call:zf}(hc:SaysAll Pg call){n:Nat}{t0:List AV}{t1:z11}{h:AHeap}{rR:ARes}{hR:AHeap}(z:z12d call n t0 t1 h=some (rR,hR)):Says Pg 20 [.agg t0,z12 t1] h rR hR:=by
 unfold z12d at z;refine sO Tryd.func20 fun w0 m0=>?_;refine wW [(0,.agg t0),(1,z12 t1)] ?_;refine oG fun n1=>W.r ?_;refine oK 2 z fun v2 h_2 z=>?_;refine oA 4 (.bool false) ?_;refine oV [(1,z12 t1),(2,v2)] (n1 ?_);refine oG fun n4=>?_;refine y26 (by kernel_rfl) (hc.ok w0) (plan:=[0,1,2,3,4,5,6]) (by kernel_rfl) (by kernel_rfl) (by kernel_rfl) ?_;obtain⟨t5,e5,z⟩:=oS z;refine WD.b 1 (some 5) (.agg t5) h_2 (z64 (P:=Pg) (h:=h_2) (t:=34) (by kernel_rfl) (by kernel_rfl) e5) ?_;refine WD.a 0 (some 6) (z12 t1) h_2 ?_;refine WD.a 0 (some 7) (z12 t1) h_2 ?_;obtain⟨r8,h_6,e7,z⟩:=z2a z;obtain⟨k8,z⟩:=z120 z;refine WD.call (d:=(some 8)) (by kernel_rfl) (by kernel_rfl) (by kernel_rfl) e7 (k:=2) (by kernel_rfl) (fun _=>(Eq.trans (by kernel_rfl) k8)) (by decide) ?_
 replace z:=z2a z;obtain⟨r9,h_9,e10,z⟩:=z
 replace z:=oS z;obtain⟨t9,c11,z⟩:=z
 have c11:=z24 c11;subst c11;refine WD.call (d:=(some 9)) (by kernel_rfl) (by kernel_rfl) (by kernel_rfl) e10 (k:=2) (by kernel_rfl) (fun _=>(by kernel_rfl)) (by decide) ?_;obtain⟨t10,e12,z⟩:=lS z;refine WD.val (d:=(some 10)) (v:=.bool t10) (h':=h_9) (by kernel_rfl) (by kernel_rfl) (zb4 AV.bool e12 (by kernel_rfl)) (k:=0) (by kernel_rfl) (fun e=>absurd e (by decide)) (by decide) ?_;refine WD.a 0 (some 4) (.bool t10) h_9 ?_;refine WD.nil ?_;refine gW [(4,.bool t10)] (n4 (oY ?_));exact lZ z [.tmp 4] [.bool t10] (rT zd)
noncomputable def zf2(h_10:AHeap)(k27:Int→AHeap→R)(self:Int→Int→AHeap→R)(t5_34:Int)(t6:Int)(h_35:AHeap):R:=obind (z9 h_35 (AV.ptr (AHeap.next h_10) 1)) fun v15=>obind (z192 v15) fun t15=>lett (decide (t6<(z7b t15))) fun (t17:Bool)=>lett (fun (t21:Bool) (h_41:AHeap)=>ifB t21 (obind (z9 h_41 (AV.ptr (AHeap.next h_10) 1)) fun v25=>obind (z192 v25) fun t25=>obind (z1a2 t25 t6) fun t27=>lett ((t27:Int) == 43) fun (t28:Bool)=>lett (fun (t5_52:Int) (h_53:AHeap)=>lett (IntKind.i64.wrap (t6+1)) fun (t23:Int)=>self t5_52 t23 h_53) fun k51=>ifB t28 (lett (IntKind.i64.wrap (t5_34+1)) fun (t30:Int)=>k51 t30 h_41) (k51 t5_34 h_41)) (k27 t5_34 h_41)) fun j21=>ifB t17 (lett (decide (t5_34≤6)) fun (t20:Bool)=>j21 t20 h_35) (j21 false h_35)
noncomputable def z11e(h_10:AHeap)(k27:Int→AHeap→R):Nat→Int→Int→AHeap→R:=zbd (fun _ _ _=>none) (zf2 h_10 k27)
theorem z175(h_10:AHeap)(k27:Int→AHeap→R)(m:Nat):z11e h_10 k27 (m+1)=zf2 h_10 k27 (z11e h_10 k27 m):=rfl
noncomputable def zf3(n:Nat)(t0:AV)(t8:Int)(k6:AHeap→R)(self:Int→AHeap→R)(t9:Int)(h_10:AHeap):R:=lett (decide (t9<t8)) fun (t10:Bool)=>ifB t10 (obind (ze8 2 t0 t9) fun t11=>obind (z15 h_10 2 t11) fun t12=>lett (newH h_10 23 [.int .i64 0,.str 0 0]) fun h_19=>obind (z16 h_19 2 t12 (z7 h_10)) fun h_21=>lett (fun (t5:Int) (h_28:AHeap)=>lett (decide (t5>6)) fun (t32:Bool)=>ifB t32 (some (.ret (.bool true),h_28)) (lett (IntKind.i64.wrap (t9+1)) fun (t33:Int)=>self t33 h_28)) fun k27=>z11e h_10 k27 n 0 0 h_21) (k6 h_10)
noncomputable def z15b(n:Nat)(t0:AV)(t8:Int)(k6:AHeap→R):Nat→Int→AHeap→R:=zbd (fun _ _=>none) (zf3 n t0 t8 k6)
theorem z176(n:Nat)(t0:AV)(t8:Int)(k6:AHeap→R)(m:Nat):z15b n t0 t8 k6 (m+1)=zf3 n t0 t8 k6 (z15b n t0 t8 k6 m):=rfl
noncomputable def z166(_:zf)(n:Nat)(t0:AV)(h:AHeap):R:=obind (z249 t0) fun t8=>lett (fun (h_7:AHeap)=>some (.ret (.bool false),h_7)) fun k6=>z15b n t0 t8 k6 n 0 h
theorem z371{call:zf}(_:SaysAll Pg call){n:Nat}{t0:AV}{h:AHeap}{rR:ARes}{hR:AHeap}(z:z166 call n t0 h=some (rR,hR)):Says Pg 16 [t0] h rR hR:=by
 unfold z166 at z;refine sO Tryd.func16 fun w0 m0=>?_;refine wW [(0,t0)] ?_;refine oG fun n1=>W.r ?_;refine oA 2 (.bool false) ?_;refine oV [(0,t0)] (n1 ?_);refine W.s (fun K2 n2 _ q2 p2=>?_);refine oG fun n3=>W.r ?_;refine oA 7 t0 ?_;refine oM 8 43 23 z fun t8 z=>?_;refine oA 9 (.int .i64 0) ?_;refine oV [(7,t0),(8,.int .i64 t8),(9,.int .i64 0)] (n3 ?_);obtain⟨k6,e6,z⟩:=lS z
 have J6:∀(h_7:AHeap),k6 h_7=some (rR,hR)→Go w0 m0 (Func.ntmps Tryd.f16) (K2 .normal) [] [] h_7:=by
  intro h_7 z;rw[e6] at z;refine n2 ?_;refine oG fun n8=>W.r ?_;refine oA 2 (.bool false) ?_;refine oV [(2,.bool false)] (n8 (oY ?_));exact lZ z [.tmp 2] [.bool false] (rT zd)
 refine ye (by kernel_rfl) (fun K5 n5 s5 o5 q5 p5=>?_);refine y17 (by kernel_rfl) (fun I9 K9 b9 n9 e9 q9 p9=>?_)
 have L9:∀(m:Nat) (t9:Int) (h_10:AHeap),z15b n t0 t8 k6 m t9 h_10=some (rR,hR)→Go w0 m0 (Func.ntmps Tryd.f16) I9 [(7,t0),(8,.int .i64 t8),(9,.int .i64 t9)] [] h_10:=by
  intro m
  induction m with
  |zero=>intro t9 h_10 z;cases z
  |succ m ih9=>
   intro t9 h_10 z;rw[z176] at z;unfold zf3 at z;refine b9 ?_;refine oG fun n11=>W.r ?_;refine oB 10 z fun t10 z=>?_;refine oV [(7,t0),(8,.int .i64 t8),(9,.int .i64 t9),(10,.bool t10)] (n11 ?_);refine W.s (fun _ n13 e13 _ _=>?_)
   cases t10 with
   |true=>
    refine oT z fun z=>?_;refine oZ (n13 ?_);refine oH fun n14 q14=>?_;refine ye (by kernel_rfl) (fun K15 n15 s15 o15 q15 p15=>?_);refine oG fun n16=>W.r ?_;refine oP 11 43 23 .i64 z fun t11 z=>?_;refine oR 12 23 z fun t12 z=>?_;refine oN 4 z fun h_19 z=>?_;refine oW 23 (.agg t12) z fun h_21 z=>?_;refine oV [(4,z7 h_10),(7,t0),(8,.int .i64 t8),(9,.int .i64 t9)] (n16 ?_);refine oG fun n23=>W.r ?_;refine oA 5 (.int .i64 0) ?_;refine oV [(4,z7 h_10),(5,.int .i64 0),(7,t0),(8,.int .i64 t8),(9,.int .i64 t9)] (n23 ?_);refine W.s (fun K24 n24 _ _ _=>?_);refine oG fun n25=>W.r ?_;refine oA 6 (.int .i64 0) ?_;refine oV [(4,z7 h_10),(5,.int .i64 0),(6,.int .i64 0),(7,t0),(8,.int .i64 t8),(9,.int .i64 t9)] (n25 ?_);obtain⟨k27,e27,z⟩:=lS z
    have J27:∀(t5:Int) (h_28:AHeap),k27 t5 h_28=some (rR,hR)→Go w0 m0 (Func.ntmps Tryd.f16) (K24 .normal) [(5,.int .i64 t5),(7,t0),(8,.int .i64 t8),(9,.int .i64 t9)] [] h_28:=by
     intro t5 h_28 z;rw[e27] at z;refine n24 ?_;refine oG fun n29=>W.r ?_;refine oA 31 (.int .i64 t5) ?_;refine oB 32 z fun t32 z=>?_;refine oV [(7,t0),(8,.int .i64 t8),(9,.int .i64 t9),(32,.bool t32)] (n29 ?_)
     cases t32 with
     |true=>
      refine oT z fun z=>?_;refine oG fun n31=>W.r ?_;refine oA 2 (.bool true) ?_;refine oV [(2,.bool true)] (n31 (oY (q15 (q14 (q9 (q5 (q2 ?_)))))));exact lZ z [.tmp 2] [.bool true] (rT zd)
     |false=>
      refine oU z fun z=>?_;refine oZ (n15 (n14 (W.r ?_)));refine oI 33 .i64 z fun t33 z=>?_;refine oA 9 (.int .i64 t33) ?_;refine oV [(7,t0),(8,.int .i64 t8),(9,.int .i64 t33)] (n9 ?_);exact gW _ (ih9 _ _ z)
    refine ye (by kernel_rfl) (fun K26 n26 s26 o26 q26 p26=>?_);refine y17 (by kernel_rfl) (fun I33 K33 b33 n33 e33 q33 p33=>?_)
    have L33:∀(m:Nat) (t5_34:Int) (t6:Int) (h_35:AHeap),z11e h_10 k27 m t5_34 t6 h_35=some (rR,hR)→Go w0 m0 (Func.ntmps Tryd.f16) I33 [(4,z7 h_10),(5,.int .i64 t5_34),(6,.int .i64 t6),(7,t0),(8,.int .i64 t8),(9,.int .i64 t9)] [] h_35:=by
     intro m
     induction m with
     |zero=>intro t5_34 t6 h_35 z;cases z
     |succ m ih33=>
      intro t5_34 t6 h_35 z;rw[z175] at z;unfold zf2 at z;refine b33 ?_;refine W.s (fun _ n36 e36 _ _=>?_);refine W.s (fun K37 n37 _ _ _=>?_);refine W.r ?_;refine oA 13 (.int .i64 t6) ?_;refine oA 14 (AV.ptr (AHeap.next h_10) 1) ?_;refine oLs 15 9 z fun t15 z=>?_;refine oA 16 (.int .i64 (z7b t15)) ?_;refine oB 17 z fun t17 z=>?_;refine oA 18 (.bool t17) ?_;obtain⟨j21,e42,z⟩:=lS z
      have J43:∀(t21:Bool) (h_41:AHeap),j21 t21 h_41=some (rR,hR)→WL Pg w0 m0 (Func.ntmps Tryd.f16) (y13 (y9 (y9 (y9 (y9 (y6 (y9 (y6 (y6 (y9 (y9 (y6 (y6 (y9 (y9 (y6 (y9 (y6 (z5f Tryd.f16))))))))))))))))))) 9 K37 [(4,z7 h_10),(5,.int .i64 t5_34),(6,.int .i64 t6),(7,t0),(8,.int .i64 t8),(9,.int .i64 t9),(21,.bool t21)] [] h_41:=by
       intro t21 h_41 z;rw[e42] at z;refine oV [(4,z7 h_10),(5,.int .i64 t5_34),(6,.int .i64 t6),(7,t0),(8,.int .i64 t8),(9,.int .i64 t9),(21,.bool t21)] (n37 ?_)
       cases t21 with
       |true=>
        refine oT z fun z=>?_;refine oZ (n36 ?_);refine oG fun n44=>?_;refine ye (by kernel_rfl) (fun K45 n45 s45 o45 q45 p45=>?_);refine oG fun n46=>W.r ?_;refine oA 24 (AV.ptr (AHeap.next h_10) 1) ?_;refine oLs 25 9 z fun t25 z=>?_;refine oA 26 (.int .i64 t6) ?_;refine oX 27 9 .i64 z fun t27 z=>?_;refine oB 28 z fun t28 z=>?_;refine oV [(4,z7 h_10),(5,.int .i64 t5_34),(6,.int .i64 t6),(7,t0),(8,.int .i64 t8),(9,.int .i64 t9),(28,.bool t28)] (n46 ?_);obtain⟨k51,e51,z⟩:=lS z
        have J51:∀(t5_52:Int) (h_53:AHeap),k51 t5_52 h_53=some (rR,hR)→Go w0 m0 (Func.ntmps Tryd.f16) (K45 .normal) [(4,z7 h_10),(5,.int .i64 t5_52),(6,.int .i64 t6),(7,t0),(8,.int .i64 t8),(9,.int .i64 t9)] [] h_53:=by
         intro t5_52 h_53 z;rw[e51] at z;refine n45 (n44 (W.r ?_));refine oA 22 (.int .i64 t6) ?_;refine oI 23 .i64 z fun t23 z=>?_;refine oA 6 (.int .i64 t23) ?_;refine oV [(4,z7 h_10),(5,.int .i64 t5_52),(6,.int .i64 t23),(7,t0),(8,.int .i64 t8),(9,.int .i64 t9)] (n33 ?_);exact gW _ (ih33 _ _ _ z)
        cases t28 with
        |true=>
         refine oT z fun z=>?_;refine W.r ?_;refine oA 29 (.int .i64 t5_34) ?_;refine oI 30 .i64 z fun t30 z=>?_;refine oA 5 (.int .i64 t30) ?_;refine oV [(4,z7 h_10),(5,.int .i64 t30),(6,.int .i64 t6),(7,t0),(8,.int .i64 t8),(9,.int .i64 t9)] ?_;exact gW _ (J51 _ _ z)
        |false=>
         refine oU z fun z=>?_;refine oZ ?_;exact gW _ (J51 _ _ z)
       |false=>
        refine oU z fun z=>?_;refine W.exit (by kernel_rfl) ?_;refine e36 (e33 ?_);refine s26 (by kernel_rfl) ?_;exact gW _ (J27 _ _ z)
      cases t17 with
      |true=>
       replace z:=z8f z
       refine oA 19 (.int .i64 t5_34) ?_;refine oB 20 z fun t20 z=>?_;refine oA 21 (.bool t20) ?_;exact lW _ (J43 _ _ z)
      |false=>
       replace z:=z90 z
       refine WL.o (some 19) ?_;refine WL.o (some 20) ?_;refine oA 21 (.bool false) ?_;exact lW _ (J43 _ _ z)
    exact gW _ (L33 _ _ _ _ z)
   |false=>
    refine oU z fun z=>?_;refine W.exit (by kernel_rfl) ?_;refine e13 (e9 ?_);refine s5 (by kernel_rfl) ?_;exact gW _ (J6 _ z)
 exact gW _ (L9 _ _ _ z)
set_option maxHeartbeats 4000000
set_option maxRecDepth 20000
noncomputable def z198(_:zf)(_:Nat)(t0:Int)(h:AHeap):R:=lett (newH h 36 [.int .i64 0,.int .i64 0]) fun h_2=>obind (z16 h_2 2 ([.int .i64 6,.int .i64 t0]:List AV) (z7 h)) fun h_5=>obind (z15 h_5 2 (z7 h)) fun w2=>some (.ret (.agg w2),h_5)
theorem z3b1{call:zf}(_:SaysAll Pg call){n:Nat}{t0:Int}{h:AHeap}{rR:ARes}{hR:AHeap}(z:z198 call n t0 h=some (rR,hR)):Says Pg 29 [.int .i64 t0] h rR hR:=by
 unfold z198 at z;refine sO Tryd.func29 fun w0 m0=>?_;refine wW [(0,.int .i64 t0)] ?_;refine oG fun n1=>W.r ?_;refine oN 2 z fun h_2 z=>?_;refine oV [(0,.int .i64 t0),(2,z7 h)] (n1 ?_);refine oG fun n4=>W.r ?_;refine oA 3 (.int .i64 t0) ?_;refine oA 4 (.agg ([.int .i64 6,.int .i64 t0]:List AV)) ?_;refine oW 36 (.agg ([.int .i64 6,.int .i64 t0]:List AV)) z fun h_5 z=>?_;refine oV [(2,z7 h)] (n4 (oY ?_));obtain⟨w2,e7,z⟩:=oS z;exact lZ z [.cell 2 36] [.agg w2] (rY e7 zd)
set_option maxHeartbeats 4000000
set_option maxRecDepth 20000
noncomputable def z76(call:zf)(_:Nat)(t0:List AV)(h:AHeap):R:=outK (zdd h 23 (some (.agg t0))) fun v1 h_2=>lett (newH h_2 34 [.int .i64 0,.int .u64 0,.int .u64 0,.int .u64 0,.int .u64 0,.nsl]) fun h_4=>lett (newH h_4 36 [.int .i64 0,.int .i64 0]) fun h_6=>obind (z58 0 v1) fun t9=>obind (z9 h_6 t9) fun v10=>obind (z2c .i64 v10) fun t10=>lett ((t10:Int) != 1) fun (t11:Bool)=>lett (fun (t16:Bool) (h_14:AHeap)=>lett (fun (t21:Bool) (h_17:AHeap)=>ifB t21 (obind (z16 h_17 6 ([.int .i64 0,.int .u64 0,.int .u64 0,.int .u64 0,.int .u64 0,.nsl]:List AV) (z7 h_2)) fun h_21=>obind (z16 h_21 2 ([.int .i64 2,.int .i64 0]:List AV) (z7 h_4)) fun h_23=>obind (z15 h_23 6 (z7 h_2)) fun w2=>obind (z15 h_23 2 (z7 h_4)) fun w3=>some (.ret (.tup [.agg w2,.agg w3]),h_23)) (obind (z58 1 v1) fun t24=>obind (z9 h_17 t24) fun v25=>obind (z192 v25) fun t25=>lett (decide ((z7b t25)>64)) fun (t27:Bool)=>ifB t27 (obind (z16 h_17 6 ([.int .i64 0,.int .u64 0,.int .u64 0,.int .u64 0,.int .u64 0,.nsl]:List AV) (z7 h_2)) fun h_34=>obind (z16 h_34 2 ([.int .i64 3,.int .i64 64]:List AV) (z7 h_4)) fun h_36=>obind (z15 h_36 6 (z7 h_2)) fun w2_39=>obind (z15 h_36 2 (z7 h_4)) fun w3_41=>some (.ret (.tup [.agg w2_39,.agg w3_41]),h_36)) (obind (z58 0 v1) fun t30=>obind (z9 h_17 t30) fun v31=>obind (z2c .i64 v31) fun t31=>lett ((t31:Int) == 1) fun (t32:Bool)=>ifB t32 (obind (z58 1 v1) fun t33=>obind (z9 h_17 t33) fun v34=>obind (z192 v34) fun t34=>callN (call 27 [z12 t34] h_17) fun r35 h_52=>obind (z4f r35) fun t35=>obind (z16 h_52 6 t35 (z7 h_2)) fun h_55=>obind (z16 h_55 2 ([.int .i64 0,.int .i64 0]:List AV) (z7 h_4)) fun h_57=>obind (z15 h_57 6 (z7 h_2)) fun w2_60=>obind (z15 h_57 2 (z7 h_4)) fun w3_62=>some (.ret (.tup [.agg w2_60,.agg w3_62]),h_57)) (obind (z58 0 v1) fun t37=>obind (z9 h_17 t37) fun v38=>obind (z2c .i64 v38) fun t38=>lett ((t38:Int) == 2) fun (t39:Bool)=>ifB t39 (obind (z58 1 v1) fun t41=>obind (z9 h_17 t41) fun v42=>obind (z192 v42) fun t42=>callN (call 28 [z12 t42] h_17) fun r43 h_73=>obind (z18e 0 r43) fun v44=>obind (z4f v44) fun t44=>obind (z18e 1 r43) fun v45=>obind (z1a v45) fun t45=>lett (newH h_73 34 [.int .i64 0,.int .u64 0,.int .u64 0,.int .u64 0,.int .u64 0,.nsl]) fun h_79=>obind (z16 h_79 6 t44 (z7 h_73)) fun h_81=>lett (!t45) fun (t47:Bool)=>ifB t47 (obind (z58 1 v1) fun t49=>obind (z9 h_81 t49) fun v50=>obind (z192 v50) fun t50=>callN (call 29 [.int .i64 (z7b t50)] h_81) fun r52 h_90=>obind (z4f r52) fun t52=>obind (z16 h_90 6 ([.int .i64 0,.int .u64 0,.int .u64 0,.int .u64 0,.int .u64 0,.nsl]:List AV) (z7 h_2)) fun h_93=>obind (z16 h_93 2 t52 (z7 h_4)) fun h_95=>obind (z15 h_95 6 (z7 h_2)) fun w2_98=>obind (z15 h_95 2 (z7 h_4)) fun w3_100=>some (.ret (.tup [.agg w2_98,.agg w3_100]),h_95)) (obind (z15 h_81 6 (z7 h_73)) fun t53=>obind (z16 h_81 6 t53 (z7 h_2)) fun h_103=>obind (z16 h_103 2 ([.int .i64 0,.int .i64 0]:List AV) (z7 h_4)) fun h_105=>obind (z15 h_105 6 (z7 h_2)) fun w2_108=>obind (z15 h_105 2 (z7 h_4)) fun w3_110=>some (.ret (.tup [.agg w2_108,.agg w3_110]),h_105))) (obind (z58 1 v1) fun t56=>obind (z9 h_17 t56) fun v57=>obind (z192 v57) fun t57=>callN (call 30 [z12 t57,.int .i64 0] h_17) fun r58 h_115=>obind (z18e 0 r58) fun v59=>obind (z4f v59) fun t59=>obind (z18e 1 r58) fun v60=>obind (z2c .i64 v60) fun t60=>obind (z18e 2 r58) fun v61=>obind (z1a v61) fun t61=>lett (newH h_115 34 [.int .i64 0,.int .u64 0,.int .u64 0,.int .u64 0,.int .u64 0,.nsl]) fun h_123=>obind (z16 h_123 6 t59 (z7 h_115)) fun h_125=>lett (!t61) fun (t63:Bool)=>lett (fun (t70:Bool) (h_130:AHeap)=>ifB t70 (callN (call 29 [.int .i64 t60] h_130) fun r73 h_134=>obind (z4f r73) fun t73=>obind (z16 h_134 6 ([.int .i64 0,.int .u64 0,.int .u64 0,.int .u64 0,.int .u64 0,.nsl]:List AV) (z7 h_2)) fun h_137=>obind (z16 h_137 2 t73 (z7 h_4)) fun h_139=>obind (z15 h_139 6 (z7 h_2)) fun w2_142=>obind (z15 h_139 2 (z7 h_4)) fun w3_144=>some (.ret (.tup [.agg w2_142,.agg w3_144]),h_139)) (obind (z15 h_130 6 (z7 h_115)) fun t74=>obind (z16 h_130 6 t74 (z7 h_2)) fun h_147=>obind (z16 h_147 2 ([.int .i64 0,.int .i64 0]:List AV) (z7 h_4)) fun h_149=>obind (z15 h_149 6 (z7 h_2)) fun w2_152=>obind (z15 h_149 2 (z7 h_4)) fun w3_154=>some (.ret (.tup [.agg w2_152,.agg w3_154]),h_149))) fun j70=>ifB t63 (j70 true h_125) (obind (z58 1 v1) fun t66=>obind (z9 h_125 t66) fun v67=>obind (z192 v67) fun t67=>lett (decide (t60<(z7b t67))) fun (t69:Bool)=>j70 t69 h_125)))))) fun j21=>ifB t16 (obind (z58 0 v1) fun t18=>obind (z9 h_14 t18) fun v19=>obind (z2c .i64 v19) fun t19=>lett ((t19:Int) != 3) fun (t20:Bool)=>j21 t20 h_14) (j21 false h_14)) fun j16=>ifB t11 (obind (z58 0 v1) fun t13=>obind (z9 h_6 t13) fun v14=>obind (z2c .i64 v14) fun t14=>lett ((t14:Int) != 2) fun (t15:Bool)=>j16 t15 h_6) (j16 false h_6)
theorem z35d{call:zf}(hc:SaysAll Pg call){n:Nat}{t0:List AV}{h:AHeap}{rR:ARes}{hR:AHeap}(z:z76 call n t0 h=some (rR,hR)):Says Pg 13 [.agg t0] h rR hR:=by
 unfold z76 at z;refine sO Tryd.func13 fun w0 m0=>?_;refine wW [(0,.agg t0)] ?_;refine oG fun n1=>W.r ?_;refine oK 1 z fun v1 h_2 z=>?_;refine oN 2 z fun h_4 z=>?_;refine oN 3 z fun h_6 z=>?_;refine oV [(1,v1),(2,z7 h_2),(3,z7 h_4)] (n1 ?_);refine oH fun n8 q8=>?_;refine W.s (fun K9 n9 _ _ _=>?_);refine W.r ?_;refine oF 9 23 0 z fun t9 z=>?_;refine oLi 10 3 z fun t10 z=>?_;refine oB 11 z fun t11 z=>?_;refine oA 12 (.bool t11) ?_;obtain⟨j16,e15,z⟩:=lS z
 have J16:∀(t16:Bool) (h_14:AHeap),j16 t16 h_14=some (rR,hR)→WL Pg w0 m0 (Func.ntmps Tryd.f13) (y13 (y9 (y9 (y6 (z5f Tryd.f13))))) 8 K9 [(1,v1),(2,z7 h_2),(3,z7 h_4),(16,.bool t16)] [] h_14:=by
  intro t16 h_14 z;rw[e15] at z;refine oA 17 (.bool t16) ?_;obtain⟨j21,e18,z⟩:=lS z
  have J19:∀(t21:Bool) (h_17:AHeap),j21 t21 h_17=some (rR,hR)→WL Pg w0 m0 (Func.ntmps Tryd.f13) (y13 (y9 (y9 (y6 (z5f Tryd.f13))))) 13 K9 [(1,v1),(2,z7 h_2),(3,z7 h_4),(21,.bool t21)] [] h_17:=by
   intro t21 h_17 z;rw[e18] at z;refine oV [(1,v1),(2,z7 h_2),(3,z7 h_4),(21,.bool t21)] (n9 ?_)
   cases t21 with
   |true=>
    refine oT z fun z=>?_;refine oG fun n20=>W.r ?_;refine oA 22 (.agg ([.int .i64 0,.int .u64 0,.int .u64 0,.int .u64 0,.int .u64 0,.nsl]:List AV)) ?_;refine oA 23 (.agg ([.int .i64 2,.int .i64 0]:List AV)) ?_;refine oW 34 (.agg ([.int .i64 0,.int .u64 0,.int .u64 0,.int .u64 0,.int .u64 0,.nsl]:List AV)) z fun h_21 z=>?_;refine oW 36 (.agg ([.int .i64 2,.int .i64 0]:List AV)) z fun h_23 z=>?_;refine oV [(2,z7 h_2),(3,z7 h_4)] (n20 (oY (q8 ?_)));obtain⟨w2,e25,z⟩:=oS z;obtain⟨w3,e26,z⟩:=oS z;exact lZ z [.cell 2 34,.cell 3 36] [.agg w2,.agg w3] (rY e25 (rY e26 zd))
   |false=>
    refine oU z fun z=>?_;refine oZ (n8 ?_);refine oH fun n27 q27=>?_;refine oG fun n28=>W.r ?_;refine oF 24 23 1 z fun t24 z=>?_;refine oLs 25 9 z fun t25 z=>?_;refine oA 26 (.int .i64 (z7b t25)) ?_;refine oB 27 z fun t27 z=>?_;refine oV [(1,v1),(2,z7 h_2),(3,z7 h_4),(27,.bool t27)] (n28 ?_)
    cases t27 with
    |true=>
     refine oT z fun z=>?_;refine oG fun n33=>W.r ?_;refine oA 28 (.agg ([.int .i64 0,.int .u64 0,.int .u64 0,.int .u64 0,.int .u64 0,.nsl]:List AV)) ?_;refine oA 29 (.agg ([.int .i64 3,.int .i64 64]:List AV)) ?_;refine oW 34 (.agg ([.int .i64 0,.int .u64 0,.int .u64 0,.int .u64 0,.int .u64 0,.nsl]:List AV)) z fun h_34 z=>?_;refine oW 36 (.agg ([.int .i64 3,.int .i64 64]:List AV)) z fun h_36 z=>?_;refine oV [(2,z7 h_2),(3,z7 h_4)] (n33 (oY (q27 ?_)));obtain⟨w2_39,e38,z⟩:=oS z;obtain⟨w3_41,e40,z⟩:=oS z;exact lZ z [.cell 2 34,.cell 3 36] [.agg w2_39,.agg w3_41] (rY e38 (rY e40 zd))
    |false=>
     refine oU z fun z=>?_;refine oZ (n27 ?_);refine oH fun n42 q42=>?_;refine oG fun n43=>W.r ?_;refine oF 30 23 0 z fun t30 z=>?_;refine oLi 31 3 z fun t31 z=>?_;refine oB 32 z fun t32 z=>?_;refine oV [(1,v1),(2,z7 h_2),(3,z7 h_4),(32,.bool t32)] (n43 ?_)
     cases t32 with
     |true=>
      refine oT z fun z=>?_;refine oG fun n48=>W.r ?_;refine oF 33 23 1 z fun t33 z=>?_;refine oLs 34 9 z fun t34 z=>?_;refine oCa hc 35 z fun t35 h_52 z=>?_;refine oA 36 (.agg ([.int .i64 0,.int .i64 0]:List AV)) ?_;refine oW 34 (.agg t35) z fun h_55 z=>?_;refine oW 36 (.agg ([.int .i64 0,.int .i64 0]:List AV)) z fun h_57 z=>?_;refine oV [(2,z7 h_2),(3,z7 h_4)] (n48 (oY (q42 ?_)));obtain⟨w2_60,e59,z⟩:=oS z;obtain⟨w3_62,e61,z⟩:=oS z;exact lZ z [.cell 2 34,.cell 3 36] [.agg w2_60,.agg w3_62] (rY e59 (rY e61 zd))
     |false=>
      refine oU z fun z=>?_;refine oZ (n42 ?_);refine oH fun n63 q63=>?_;refine oG fun n64=>W.r ?_;refine oF 37 23 0 z fun t37 z=>?_;refine oLi 38 3 z fun t38 z=>?_;refine oB 39 z fun t39 z=>?_;refine oV [(1,v1),(2,z7 h_2),(3,z7 h_4),(39,.bool t39)] (n64 ?_)
      cases t39 with
      |true=>
       refine oT z fun z=>?_;refine oG fun n69=>W.r ?_;refine oF 41 23 1 z fun t41 z=>?_;refine oLs 42 9 z fun t42 z=>?_;refine oC hc (some 43) z fun r43 h_73 z=>?_;refine oA 40 r43 ?_;refine oEa 44 z fun t44 z=>?_;refine oEb 45 z fun t45 z=>?_;refine oN 4 z fun h_79 z=>?_;refine oW 34 (.agg t44) z fun h_81 z=>?_;refine oA 5 (.bool t45) ?_;refine oV [(1,v1),(2,z7 h_2),(3,z7 h_4),(4,z7 h_73),(5,.bool t45)] (n69 ?_);refine oH fun n83 q83=>?_;refine oG fun n84=>W.r ?_;refine oA 46 (.bool t45) ?_;refine oB 47 z fun t47 z=>?_;refine oV [(1,v1),(2,z7 h_2),(3,z7 h_4),(4,z7 h_73),(47,.bool t47)] (n84 ?_)
       cases t47 with
       |true=>
        refine oT z fun z=>?_;refine oG fun n86=>W.r ?_;refine oA 48 (.agg ([.int .i64 0,.int .u64 0,.int .u64 0,.int .u64 0,.int .u64 0,.nsl]:List AV)) ?_;refine oF 49 23 1 z fun t49 z=>?_;refine oLs 50 9 z fun t50 z=>?_;refine oA 51 (.int .i64 (z7b t50)) ?_;refine oCa hc 52 z fun t52 h_90 z=>?_;refine oW 34 (.agg ([.int .i64 0,.int .u64 0,.int .u64 0,.int .u64 0,.int .u64 0,.nsl]:List AV)) z fun h_93 z=>?_;refine oW 36 (.agg t52) z fun h_95 z=>?_;refine oV [(2,z7 h_2),(3,z7 h_4)] (n86 (oY (q83 (q63 ?_))));obtain⟨w2_98,e97,z⟩:=oS z;obtain⟨w3_100,e99,z⟩:=oS z;exact lZ z [.cell 2 34,.cell 3 36] [.agg w2_98,.agg w3_100] (rY e97 (rY e99 zd))
       |false=>
        refine oU z fun z=>?_;refine oZ (n83 ?_);refine oG fun n101=>W.r ?_;refine oR 53 34 z fun t53 z=>?_;refine oA 54 (.agg ([.int .i64 0,.int .i64 0]:List AV)) ?_;refine oW 34 (.agg t53) z fun h_103 z=>?_;refine oW 36 (.agg ([.int .i64 0,.int .i64 0]:List AV)) z fun h_105 z=>?_;refine oV [(2,z7 h_2),(3,z7 h_4)] (n101 (oY (q63 ?_)));obtain⟨w2_108,e107,z⟩:=oS z;obtain⟨w3_110,e109,z⟩:=oS z;exact lZ z [.cell 2 34,.cell 3 36] [.agg w2_108,.agg w3_110] (rY e107 (rY e109 zd))
      |false=>
       refine oU z fun z=>?_;refine oZ (n63 ?_);refine oG fun n111=>W.r ?_;refine oF 56 23 1 z fun t56 z=>?_;refine oLs 57 9 z fun t57 z=>?_;refine oC hc (some 58) z fun r58 h_115 z=>?_;refine oA 55 r58 ?_;refine oEa 59 z fun t59 z=>?_;refine oEi 60 z fun t60 z=>?_;refine oEb 61 z fun t61 z=>?_;refine oN 6 z fun h_123 z=>?_;refine oW 34 (.agg t59) z fun h_125 z=>?_;refine oA 7 (.int .i64 t60) ?_;refine oA 8 (.bool t61) ?_;refine oV [(1,v1),(2,z7 h_2),(3,z7 h_4),(6,z7 h_115),(7,.int .i64 t60),(8,.bool t61)] (n111 ?_);refine oH fun n127 q127=>?_;refine W.s (fun K128 n128 _ _ _=>?_);refine W.r ?_;refine oA 62 (.bool t61) ?_;refine oB 63 z fun t63 z=>?_;refine oA 64 (.bool t63) ?_;obtain⟨j70,e131,z⟩:=lS z
       have J132:∀(t70:Bool) (h_130:AHeap),j70 t70 h_130=some (rR,hR)→WL Pg w0 m0 (Func.ntmps Tryd.f13) (y13 (y9 (y9 (y6 (y6 (y6 (y6 (y6 (y6 (z5f Tryd.f13)))))))))) 9 K128 [(2,z7 h_2),(3,z7 h_4),(6,z7 h_115),(7,.int .i64 t60),(70,.bool t70)] [] h_130:=by
        intro t70 h_130 z;rw[e131] at z;refine oV [(2,z7 h_2),(3,z7 h_4),(6,z7 h_115),(7,.int .i64 t60),(70,.bool t70)] (n128 ?_)
        cases t70 with
        |true=>
         refine oT z fun z=>?_;refine oG fun n133=>W.r ?_;refine oA 71 (.agg ([.int .i64 0,.int .u64 0,.int .u64 0,.int .u64 0,.int .u64 0,.nsl]:List AV)) ?_;refine oA 72 (.int .i64 t60) ?_;refine oCa hc 73 z fun t73 h_134 z=>?_;refine oW 34 (.agg ([.int .i64 0,.int .u64 0,.int .u64 0,.int .u64 0,.int .u64 0,.nsl]:List AV)) z fun h_137 z=>?_;refine oW 36 (.agg t73) z fun h_139 z=>?_;refine oV [(2,z7 h_2),(3,z7 h_4)] (n133 (oY (q127 ?_)));obtain⟨w2_142,e141,z⟩:=oS z;obtain⟨w3_144,e143,z⟩:=oS z;exact lZ z [.cell 2 34,.cell 3 36] [.agg w2_142,.agg w3_144] (rY e141 (rY e143 zd))
        |false=>
         refine oU z fun z=>?_;refine oZ (n127 ?_);refine oG fun n145=>W.r ?_;refine oR 74 34 z fun t74 z=>?_;refine oA 75 (.agg ([.int .i64 0,.int .i64 0]:List AV)) ?_;refine oW 34 (.agg t74) z fun h_147 z=>?_;refine oW 36 (.agg ([.int .i64 0,.int .i64 0]:List AV)) z fun h_149 z=>?_;refine oV [(2,z7 h_2),(3,z7 h_4)] (n145 (oY ?_));obtain⟨w2_152,e151,z⟩:=oS z;obtain⟨w3_154,e153,z⟩:=oS z;exact lZ z [.cell 2 34,.cell 3 36] [.agg w2_152,.agg w3_154] (rY e151 (rY e153 zd))
       cases t63 with
       |true=>
        replace z:=z8f z
        refine WL.o (some 65) ?_;refine WL.o (some 66) ?_;refine WL.o (some 67) ?_;refine WL.o (some 68) ?_;refine WL.o (some 69) ?_;refine oA 70 (.bool true) ?_;exact lW _ (J132 _ _ z)
       |false=>
        replace z:=z90 z
        refine oA 65 (.int .i64 t60) ?_;refine oF 66 23 1 z fun t66 z=>?_;refine oLs 67 9 z fun t67 z=>?_;refine oA 68 (.int .i64 (z7b t67)) ?_;refine oB 69 z fun t69 z=>?_;refine oA 70 (.bool t69) ?_;exact lW _ (J132 _ _ z)
  cases t16 with
  |true=>
   replace z:=z8f z
   refine oF 18 23 0 z fun t18 z=>?_;refine oLi 19 3 z fun t19 z=>?_;refine oB 20 z fun t20 z=>?_;refine oA 21 (.bool t20) ?_;exact lW _ (J19 _ _ z)
  |false=>
   replace z:=z90 z
   refine WL.o (some 18) ?_;refine WL.o (some 19) ?_;refine WL.o (some 20) ?_;refine oA 21 (.bool false) ?_;exact lW _ (J19 _ _ z)
 cases t11 with
 |true=>
  replace z:=z8f z
  refine oF 13 23 0 z fun t13 z=>?_;refine oLi 14 3 z fun t14 z=>?_;refine oB 15 z fun t15 z=>?_;refine oA 16 (.bool t15) ?_;exact lW _ (J16 _ _ z)
 |false=>
  replace z:=z90 z
  refine WL.o (some 13) ?_;refine WL.o (some 14) ?_;refine WL.o (some 15) ?_;refine oA 16 (.bool false) ?_;exact lW _ (J16 _ _ z)
noncomputable def za1(call:zf)(t0:z11)(k8:AV→AHeap→R)(self:AV→Int→AHeap→R)(t3_18:AV)(t4:Int)(h_19:AHeap):R:=lett (decide (t4<(z7b t0))) fun (t8:Bool)=>ifB t8 (obind (z1a2 t0 t4) fun t14=>callN (call 43 [.int .u8 t14] h_19) fun r15 h_26=>obind (z4f r15) fun t15=>outK (z122 Pg h_26 32 1 [(0,.agg t15)]) fun v16 h_29=>outK (z5e Pg h_29 32 32 t3_18 v16) fun v17 h_31=>lett (IntKind.i64.wrap (t4+1)) fun (t10:Int)=>self v17 t10 h_31) (k8 t3_18 h_19)
noncomputable def zb5(call:zf)(t0:z11)(k8:AV→AHeap→R):Nat→AV→Int→AHeap→R:=zbd (fun _ _ _=>none) (za1 call t0 k8)
theorem z114(call:zf)(t0:z11)(k8:AV→AHeap→R)(m:Nat):zb5 call t0 k8 (m+1)=za1 call t0 k8 (zb5 call t0 k8 m):=rfl
noncomputable def z80(call:zf)(n:Nat)(t0:z11)(h:AHeap):R:=lett (newH h 34 [.int .i64 0,.int .u64 0,.int .u64 0,.int .u64 0,.int .u64 0,.nsl]) fun h_2=>lett (fun (t3:AV) (h_9:AHeap)=>callN (call 44 [.int .i64 3,t3] h_9) fun r19 h_11=>obind (z4f r19) fun t19=>obind (z16 h_11 6 t19 (z7 h)) fun h_14=>obind (z15 h_14 6 (z7 h)) fun w2=>some (.ret (.agg w2),h_14)) fun k8=>zb5 call t0 k8 n AV.nsl 0 h_2
theorem z291{call:zf}(hc:SaysAll Pg call){n:Nat}{t0:z11}{h:AHeap}{rR:ARes}{hR:AHeap}(z:z80 call n t0 h=some (rR,hR)):Says Pg 27 [z12 t0] h rR hR:=by
 unfold z80 at z;refine sO Tryd.func27 fun w0 m0=>?_;refine wW [(0,z12 t0)] ?_;refine oG fun n1=>W.r ?_;refine oN 2 z fun h_2 z=>?_;refine oV [(0,z12 t0),(2,z7 h)] (n1 ?_);refine oG fun n4=>W.r ?_;refine oA 3 AV.nsl ?_;refine oV [(0,z12 t0),(2,z7 h),(3,AV.nsl)] (n4 ?_);refine W.s (fun K5 n5 _ _ _=>?_);refine oG fun n6=>W.r ?_;refine oA 4 (.int .i64 0) ?_;refine oV [(0,z12 t0),(2,z7 h),(3,AV.nsl),(4,.int .i64 0)] (n6 ?_);obtain⟨k8,e8,z⟩:=lS z
 have J8:∀(t3:AV) (h_9:AHeap),k8 t3 h_9=some (rR,hR)→Go w0 m0 (Func.ntmps Tryd.f27) (K5 .normal) [(2,z7 h),(3,t3)] [] h_9:=by
  intro t3 h_9 z;rw[e8] at z;refine n5 ?_;refine oG fun n10=>W.r ?_;refine oA 18 t3 ?_;refine oCa hc 19 z fun t19 h_11 z=>?_;refine oW 34 (.agg t19) z fun h_14 z=>?_;refine oV [(2,z7 h)] (n10 (oY ?_));obtain⟨w2,e16,z⟩:=oS z;exact lZ z [.cell 2 34] [.agg w2] (rY e16 zd)
 refine ye (by kernel_rfl) (fun K7 n7 s7 o7 q7 p7=>?_);refine y17 (by kernel_rfl) (fun I17 K17 b17 n17 e17 q17 p17=>?_)
 have L17:∀(m:Nat) (t3_18:AV) (t4:Int) (h_19:AHeap),zb5 call t0 k8 m t3_18 t4 h_19=some (rR,hR)→Go w0 m0 (Func.ntmps Tryd.f27) I17 [(0,z12 t0),(2,z7 h),(3,t3_18),(4,.int .i64 t4)] [] h_19:=by
  intro m
  induction m with
  |zero=>intro t3_18 t4 h_19 z;cases z
  |succ m ih17=>
   intro t3_18 t4 h_19 z;rw[z114] at z;unfold za1 at z;refine b17 ?_;refine W.s (fun _ n20 e20 _ _=>?_);refine oG fun n21=>W.r ?_;refine oA 5 (.int .i64 t4) ?_;refine oA 6 (z12 t0) ?_;refine oA 7 (.int .i64 (z7b t0)) ?_;refine oB 8 z fun t8 z=>?_;refine oV [(0,z12 t0),(2,z7 h),(3,t3_18),(4,.int .i64 t4),(8,.bool t8)] (n21 ?_)
   cases t8 with
   |true=>
    refine oT z fun z=>?_;refine oZ (n20 ?_);refine oG fun n23=>?_;refine ye (by kernel_rfl) (fun K24 n24 s24 o24 q24 p24=>?_);refine W.r ?_;refine oA 11 t3_18 ?_;refine oA 12 (z12 t0) ?_;refine oA 13 (.int .i64 t4) ?_;refine oX 14 9 .i64 z fun t14 z=>?_;refine oCa hc 15 z fun t15 h_26 z=>?_;refine oK 16 z fun v16 h_29 z=>?_;refine oK 17 z fun v17 h_31 z=>?_;refine oA 3 v17 ?_;refine oV [(0,z12 t0),(2,z7 h),(3,v17),(4,.int .i64 t4)] (n24 (n23 (W.r ?_)));refine oA 9 (.int .i64 t4) ?_;refine oI 10 .i64 z fun t10 z=>?_;refine oA 4 (.int .i64 t10) ?_;refine oV [(0,z12 t0),(2,z7 h),(3,v17),(4,.int .i64 t10)] (n17 ?_);exact gW _ (ih17 _ _ _ z)
   |false=>
    refine oU z fun z=>?_;refine W.exit (by kernel_rfl) ?_;refine e20 (e17 ?_);refine s7 (by kernel_rfl) ?_;exact gW _ (J8 _ _ z)
 exact gW _ (L17 _ _ _ _ z)
noncomputable def z6f(call:zf)(t0:z11)(h:AHeap)(k8:AV→AHeap→R)(self:AV→Int→AHeap→R)(t4_18:AV)(t5:Int)(h_19:AHeap):R:=lett (decide (t5<(z7b t0))) fun (t9:Bool)=>ifB t9 (obind (z1a2 t0 t5) fun t14=>lett ((t14:Int) == 92) fun (t15:Bool)=>lett (fun (t22:Bool) (h_29:AHeap)=>ifB t22 (obind (z16 h_29 6 ([.int .i64 0,.int .u64 0,.int .u64 0,.int .u64 0,.int .u64 0,.nsl]:List AV) (z7 h)) fun h_33=>obind (z15 h_33 6 (z7 h)) fun w2_36=>some (.ret (.tup [.agg w2_36,.bool false]),h_33)) (obind (z1a2 t0 t5) fun t34=>lett ((t34:Int) == 92) fun (t35:Bool)=>lett (fun (t4_42:AV) (t5_43:Int) (h_44:AHeap)=>lett (IntKind.i64.wrap (t5_43+1)) fun (t11:Int)=>self t4_42 t11 h_44) fun k41=>ifB t35 (lett (IntKind.i64.wrap (t5+1)) fun (t39:Int)=>obind (z1a2 t0 t39) fun t40=>callN (call 43 [.int .u8 t40] h_29) fun r41 h_49=>obind (z4f r41) fun t41=>outK (z122 Pg h_49 32 1 [(0,.agg t41)]) fun v42 h_52=>outK (z5e Pg h_52 32 32 t4_18 v42) fun v43 h_54=>lett (IntKind.i64.wrap (t5+1)) fun (t45:Int)=>k41 v43 t45 h_54) (obind (z1a2 t0 t5) fun t49=>lett ((t49:Int) == 42) fun (t50:Bool)=>lett (fun (t4_61:AV) (h_62:AHeap)=>k41 t4_61 t5 h_62) fun k60=>ifB t50 (callN (call 45 [] h_29) fun r52 h_63=>obind (z4f r52) fun t52=>outK (z122 Pg h_63 32 1 [(0,.agg t52)]) fun v53 h_66=>obind (z27a Pg 34 [(0,.int .i64 5),(2,v53)]) fun t54=>outK (z122 Pg h_66 32 1 [(0,.agg t54)]) fun v55 h_69=>outK (z5e Pg h_69 32 32 t4_18 v55) fun v56 h_71=>k60 v56 h_71) (obind (z1a2 t0 t5) fun t60=>lett ((t60:Int) == 63) fun (t61:Bool)=>lett (fun (t4_77:AV) (h_78:AHeap)=>k60 t4_77 h_78) fun k76=>ifB t61 (callN (call 45 [] h_29) fun r63 h_79=>obind (z4f r63) fun t63=>outK (z122 Pg h_79 32 1 [(0,.agg t63)]) fun v64 h_82=>outK (z5e Pg h_82 32 32 t4_18 v64) fun v65 h_84=>k76 v65 h_84) (obind (z1a2 t0 t5) fun t27=>callN (call 43 [.int .u8 t27] h_29) fun r28 h_87=>obind (z4f r28) fun t28=>outK (z122 Pg h_87 32 1 [(0,.agg t28)]) fun v29 h_90=>outK (z5e Pg h_90 32 32 t4_18 v29) fun v30 h_92=>k76 v30 h_92))))) fun j22=>ifB t15 (lett (IntKind.i64.wrap (t5+1)) fun (t18:Int)=>lett ((t18:Int) == (z7b t0)) fun (t21:Bool)=>j22 t21 h_19) (j22 false h_19)) (k8 t4_18 h_19)
noncomputable def z115(call:zf)(t0:z11)(h:AHeap)(k8:AV→AHeap→R):Nat→AV→Int→AHeap→R:=zbd (fun _ _ _=>none) (z6f call t0 h k8)
theorem z88(call:zf)(t0:z11)(h:AHeap)(k8:AV→AHeap→R)(m:Nat):z115 call t0 h k8 (m+1)=z6f call t0 h k8 (z115 call t0 h k8 m):=rfl
noncomputable def z163(call:zf)(n:Nat)(t0:z11)(h:AHeap):R:=lett (newH h 34 [.int .i64 0,.int .u64 0,.int .u64 0,.int .u64 0,.int .u64 0,.nsl]) fun h_2=>lett (fun (t4:AV) (h_9:AHeap)=>callN (call 44 [.int .i64 3,t4] h_9) fun r67 h_11=>obind (z4f r67) fun t67=>obind (z16 h_11 6 t67 (z7 h)) fun h_14=>obind (z15 h_14 6 (z7 h)) fun w2=>some (.ret (.tup [.agg w2,.bool true]),h_14)) fun k8=>z115 call t0 h k8 n AV.nsl 0 h_2
theorem z35a{call:zf}(hc:SaysAll Pg call){n:Nat}{t0:z11}{h:AHeap}{rR:ARes}{hR:AHeap}(z:z163 call n t0 h=some (rR,hR)):Says Pg 28 [z12 t0] h rR hR:=by
 unfold z163 at z;refine sO Tryd.func28 fun w0 m0=>?_;refine wW [(0,z12 t0)] ?_;refine oG fun n1=>W.r ?_;refine oN 2 z fun h_2 z=>?_;refine oA 3 (.bool false) ?_;refine oV [(0,z12 t0),(2,z7 h)] (n1 ?_);refine oG fun n4=>W.r ?_;refine oA 4 AV.nsl ?_;refine oV [(0,z12 t0),(2,z7 h),(4,AV.nsl)] (n4 ?_);refine W.s (fun K5 n5 _ q5 _=>?_);refine oG fun n6=>W.r ?_;refine oA 5 (.int .i64 0) ?_;refine oV [(0,z12 t0),(2,z7 h),(4,AV.nsl),(5,.int .i64 0)] (n6 ?_);obtain⟨k8,e8,z⟩:=lS z
 have J8:∀(t4:AV) (h_9:AHeap),k8 t4 h_9=some (rR,hR)→Go w0 m0 (Func.ntmps Tryd.f28) (K5 .normal) [(2,z7 h),(4,t4)] [] h_9:=by
  intro t4 h_9 z;rw[e8] at z;refine n5 ?_;refine oG fun n10=>W.r ?_;refine oA 66 t4 ?_;refine oCa hc 67 z fun t67 h_11 z=>?_;refine oW 34 (.agg t67) z fun h_14 z=>?_;refine oA 3 (.bool true) ?_;refine oV [(2,z7 h),(3,.bool true)] (n10 (oY ?_));obtain⟨w2,e16,z⟩:=oS z;exact lZ z [.cell 2 34,.tmp 3] [.agg w2,.bool true] (rY e16 (rT zd))
 refine ye (by kernel_rfl) (fun K7 n7 s7 o7 q7 p7=>?_);refine y17 (by kernel_rfl) (fun I17 K17 b17 n17 e17 q17 p17=>?_)
 have L17:∀(m:Nat) (t4_18:AV) (t5:Int) (h_19:AHeap),z115 call t0 h k8 m t4_18 t5 h_19=some (rR,hR)→Go w0 m0 (Func.ntmps Tryd.f28) I17 [(0,z12 t0),(2,z7 h),(4,t4_18),(5,.int .i64 t5)] [] h_19:=by
  intro m
  induction m with
  |zero=>intro t4_18 t5 h_19 z;cases z
  |succ m ih17=>
   intro t4_18 t5 h_19 z;rw[z88] at z;unfold z6f at z;refine b17 ?_;refine W.s (fun _ n20 e20 _ _=>?_);refine oG fun n21=>W.r ?_;refine oA 6 (.int .i64 t5) ?_;refine oA 7 (z12 t0) ?_;refine oA 8 (.int .i64 (z7b t0)) ?_;refine oB 9 z fun t9 z=>?_;refine oV [(0,z12 t0),(2,z7 h),(4,t4_18),(5,.int .i64 t5),(9,.bool t9)] (n21 ?_)
   cases t9 with
   |true=>
    refine oT z fun z=>?_;refine oZ (n20 ?_);refine oH fun n23 q23=>?_;refine ye (by kernel_rfl) (fun K24 n24 s24 o24 q24 p24=>?_);refine oH fun n25 q25=>?_;refine W.s (fun K26 n26 _ _ _=>?_);refine W.r ?_;refine oA 12 (z12 t0) ?_;refine oA 13 (.int .i64 t5) ?_;refine oX 14 9 .i64 z fun t14 z=>?_;refine oB 15 z fun t15 z=>?_;refine oA 16 (.bool t15) ?_;obtain⟨j22,e30,z⟩:=lS z
    have J31:∀(t22:Bool) (h_29:AHeap),j22 t22 h_29=some (rR,hR)→WL Pg w0 m0 (Func.ntmps Tryd.f28) (y13 (y9 (y9 (y9 (y9 (y6 (y9 (y9 (y6 (y9 (y6 (y6 (z5f Tryd.f28))))))))))))) 11 K26 [(0,z12 t0),(2,z7 h),(4,t4_18),(5,.int .i64 t5),(22,.bool t22)] [] h_29:=by
     intro t22 h_29 z;rw[e30] at z;refine oV [(0,z12 t0),(2,z7 h),(4,t4_18),(5,.int .i64 t5),(22,.bool t22)] (n26 ?_)
     cases t22 with
     |true=>
      refine oT z fun z=>?_;refine oG fun n32=>W.r ?_;refine oA 23 (.agg ([.int .i64 0,.int .u64 0,.int .u64 0,.int .u64 0,.int .u64 0,.nsl]:List AV)) ?_;refine oW 34 (.agg ([.int .i64 0,.int .u64 0,.int .u64 0,.int .u64 0,.int .u64 0,.nsl]:List AV)) z fun h_33 z=>?_;refine oA 3 (.bool false) ?_;refine oV [(2,z7 h),(3,.bool false)] (n32 (oY (q25 (q24 (q23 (q17 (q7 (q5 ?_))))))));obtain⟨w2_36,e35,z⟩:=oS z;exact lZ z [.cell 2 34,.tmp 3] [.agg w2_36,.bool false] (rY e35 (rT zd))
     |false=>
      refine oU z fun z=>?_;refine oZ (n25 ?_);refine ye (by kernel_rfl) (fun K37 n37 s37 o37 q37 p37=>?_);refine oG fun n38=>W.r ?_;refine oA 32 (z12 t0) ?_;refine oA 33 (.int .i64 t5) ?_;refine oX 34 9 .i64 z fun t34 z=>?_;refine oB 35 z fun t35 z=>?_;refine oA 31 (.bool t35) ?_;refine oV [(0,z12 t0),(2,z7 h),(4,t4_18),(5,.int .i64 t5),(31,.bool t35)] (n38 ?_);obtain⟨k41,e41,z⟩:=lS z
      have J41:∀(t4_42:AV) (t5_43:Int) (h_44:AHeap),k41 t4_42 t5_43 h_44=some (rR,hR)→Go w0 m0 (Func.ntmps Tryd.f28) (K37 .normal) [(0,z12 t0),(2,z7 h),(4,t4_42),(5,.int .i64 t5_43)] [] h_44:=by
       intro t4_42 t5_43 h_44 z;rw[e41] at z;refine n37 (n24 (n23 (W.r ?_)));refine oA 10 (.int .i64 t5_43) ?_;refine oI 11 .i64 z fun t11 z=>?_;refine oA 5 (.int .i64 t11) ?_;refine oV [(0,z12 t0),(2,z7 h),(4,t4_42),(5,.int .i64 t11)] (n17 ?_);exact gW _ (ih17 _ _ _ z)
      cases t35 with
      |true=>
       refine oT z fun z=>?_;refine oG fun n46=>W.r ?_;refine oA 36 t4_18 ?_;refine oA 37 (z12 t0) ?_;refine oA 38 (.int .i64 t5) ?_;refine oI 39 .i64 z fun t39 z=>?_;refine oX 40 9 .i64 z fun t40 z=>?_;refine oCa hc 41 z fun t41 h_49 z=>?_;refine oK 42 z fun v42 h_52 z=>?_;refine oK 43 z fun v43 h_54 z=>?_;refine oA 4 v43 ?_;refine oV [(0,z12 t0),(2,z7 h),(4,v43),(5,.int .i64 t5)] (n46 (W.r ?_));refine oA 44 (.int .i64 t5) ?_;refine oI 45 .i64 z fun t45 z=>?_;refine oA 5 (.int .i64 t45) ?_;refine oV [(0,z12 t0),(2,z7 h),(4,v43),(5,.int .i64 t45)] ?_;exact gW _ (J41 _ _ _ z)
      |false=>
       refine oU z fun z=>?_;refine oG fun n57=>W.r ?_;refine oA 47 (z12 t0) ?_;refine oA 48 (.int .i64 t5) ?_;refine oX 49 9 .i64 z fun t49 z=>?_;refine oB 50 z fun t50 z=>?_;refine oA 46 (.bool t50) ?_;refine oV [(0,z12 t0),(2,z7 h),(4,t4_18),(5,.int .i64 t5),(46,.bool t50)] (n57 ?_);obtain⟨k60,e60,z⟩:=lS z
       have J60:∀(t4_61:AV) (h_62:AHeap),k60 t4_61 h_62=some (rR,hR)→Go w0 m0 (Func.ntmps Tryd.f28) (K37 .normal) [(0,z12 t0),(2,z7 h),(4,t4_61),(5,.int .i64 t5)] [] h_62:=by
        intro t4_61 h_62 z;rw[e60] at z;exact gW _ (J41 _ _ _ z)
       cases t50 with
       |true=>
        refine oT z fun z=>?_;refine W.r ?_;refine oA 51 t4_18 ?_;refine oCa hc 52 z fun t52 h_63 z=>?_;refine oK 53 z fun v53 h_66 z=>?_;obtain⟨t54,e68,z⟩:=oS z;refine WL.val (d:=(some 54)) (v:=.agg t54) (h':=h_66) (by kernel_rfl) (by kernel_rfl) (z1ef (by kernel_rfl) e68) ?_;refine oK 55 z fun v55 h_69 z=>?_;refine oK 56 z fun v56 h_71 z=>?_;refine oA 4 v56 ?_;refine oV [(0,z12 t0),(2,z7 h),(4,v56),(5,.int .i64 t5)] ?_;exact gW _ (J60 _ _ z)
       |false=>
        refine oU z fun z=>?_;refine oG fun n73=>W.r ?_;refine oA 58 (z12 t0) ?_;refine oA 59 (.int .i64 t5) ?_;refine oX 60 9 .i64 z fun t60 z=>?_;refine oB 61 z fun t61 z=>?_;refine oA 57 (.bool t61) ?_;refine oV [(0,z12 t0),(2,z7 h),(4,t4_18),(5,.int .i64 t5),(57,.bool t61)] (n73 ?_);obtain⟨k76,e76,z⟩:=lS z
        have J76:∀(t4_77:AV) (h_78:AHeap),k76 t4_77 h_78=some (rR,hR)→Go w0 m0 (Func.ntmps Tryd.f28) (K37 .normal) [(0,z12 t0),(2,z7 h),(4,t4_77),(5,.int .i64 t5)] [] h_78:=by
         intro t4_77 h_78 z;rw[e76] at z;exact gW _ (J60 _ _ z)
        cases t61 with
        |true=>
         refine oT z fun z=>?_;refine W.r ?_;refine oA 62 t4_18 ?_;refine oCa hc 63 z fun t63 h_79 z=>?_;refine oK 64 z fun v64 h_82 z=>?_;refine oK 65 z fun v65 h_84 z=>?_;refine oA 4 v65 ?_;refine oV [(0,z12 t0),(2,z7 h),(4,v65),(5,.int .i64 t5)] ?_;exact gW _ (J76 _ _ z)
        |false=>
         refine oU z fun z=>?_;refine W.r ?_;refine oA 24 t4_18 ?_;refine oA 25 (z12 t0) ?_;refine oA 26 (.int .i64 t5) ?_;refine oX 27 9 .i64 z fun t27 z=>?_;refine oCa hc 28 z fun t28 h_87 z=>?_;refine oK 29 z fun v29 h_90 z=>?_;refine oK 30 z fun v30 h_92 z=>?_;refine oA 4 v30 ?_;refine oV [(0,z12 t0),(2,z7 h),(4,v30),(5,.int .i64 t5)] ?_;exact gW _ (J76 _ _ z)
    cases t15 with
    |true=>
     replace z:=z8f z
     refine oA 17 (.int .i64 t5) ?_;refine oI 18 .i64 z fun t18 z=>?_;refine oA 19 (z12 t0) ?_;refine oA 20 (.int .i64 (z7b t0)) ?_;refine oB 21 z fun t21 z=>?_;refine oA 22 (.bool t21) ?_;exact lW _ (J31 _ _ z)
    |false=>
     replace z:=z90 z
     refine WL.o (some 17) ?_;refine WL.o (some 18) ?_;refine WL.o (some 19) ?_;refine WL.o (some 20) ?_;refine WL.o (some 21) ?_;refine oA 22 (.bool false) ?_;exact lW _ (J31 _ _ z)
   |false=>
    refine oU z fun z=>?_;refine W.exit (by kernel_rfl) ?_;refine e20 (e17 ?_);refine s7 (by kernel_rfl) ?_;exact gW _ (J8 _ _ z)
 exact gW _ (L17 _ _ _ _ z)
noncomputable def z16e(_:zf)(_:Nat)(t0:Int)(h:AHeap):R:=lett (newH h 34 [.int .i64 0,.int .u64 0,.int .u64 0,.int .u64 0,.int .u64 0,.nsl]) fun h_2=>lett (newH h_2 34 [.int .i64 0,.int .u64 0,.int .u64 0,.int .u64 0,.int .u64 0,.nsl]) fun h_5=>obind (z16 h_5 6 ([.int .i64 2,.int .u64 0,.int .u64 0,.int .u64 0,.int .u64 0,.nsl]:List AV) (z7 h_2)) fun h_7=>obind (z44a .u8 t0 64) fun t6=>obind (z448 .u8 t0 64) fun t8=>obind (shlI .u64 1 t8) fun t9=>obind (z20b 4 1 (AV.ptr (AHeap.next h_2) 1) t6) fun t11=>obind (z16 h_7 1 [.int .u64 t9] t11) fun h_14=>obind (z15 h_14 6 (z7 h_2)) fun t12=>obind (z16 h_14 6 t12 (z7 h)) fun h_18=>obind (z15 h_18 6 (z7 h)) fun w2=>some (.ret (.agg w2),h_18)
theorem z3b2{call:zf}(_:SaysAll Pg call){n:Nat}{t0:Int}{h:AHeap}{rR:ARes}{hR:AHeap}(z:z16e call n t0 h=some (rR,hR)):Says Pg 43 [.int .u8 t0] h rR hR:=by
 unfold z16e at z;refine sO Tryd.func43 fun w0 m0=>?_;refine wW [(0,.int .u8 t0)] ?_;refine oG fun n1=>W.r ?_;refine oN 2 z fun h_2 z=>?_;refine oV [(0,.int .u8 t0),(2,z7 h)] (n1 ?_);refine oG fun n4=>W.r ?_;refine oA 4 (.agg ([.int .i64 2,.int .u64 0,.int .u64 0,.int .u64 0,.int .u64 0,.nsl]:List AV)) ?_;refine oN 3 z fun h_5 z=>?_;refine oW 34 (.agg ([.int .i64 2,.int .u64 0,.int .u64 0,.int .u64 0,.int .u64 0,.nsl]:List AV)) z fun h_7 z=>?_;refine oV [(0,.int .u8 t0),(2,z7 h),(3,z7 h_2)] (n4 ?_);refine oG fun n9=>W.r ?_;refine oA 5 (.int .u8 t0) ?_;obtain⟨t6,e10,z⟩:=oS z;refine WL.b (some 6) (.int .u8 t6) h_7 (z268 (P:=Pg) (h:=h_7) (t:=5) (lit:=true) e10) ?_;refine oA 7 (.int .u8 t0) ?_;obtain⟨t8,e11,z⟩:=oS z;refine WL.b (some 8) (.int .u8 t8) h_7 (z266 (P:=Pg) (h:=h_7) (t:=5) (lit:=true) e11) ?_;obtain⟨t9,e12,z⟩:=oS z;refine WL.b (some 9) (.int .u64 t9) h_7 (z262 (P:=Pg) (h:=h_7) (t:=29) (k':=.u8) (lit:=true) e12) ?_;refine oA 10 (AV.ptr (AHeap.next h_2) 1) ?_;refine oQ 11 31 29 .u8 z fun t11 z=>?_;refine oW 29 (.int .u64 t9) z fun h_14 z=>?_;refine oV [(2,z7 h),(3,z7 h_2)] (n9 ?_);refine oG fun n16=>W.r ?_;refine oR 12 34 z fun t12 z=>?_;refine oW 34 (.agg t12) z fun h_18 z=>?_;refine oV [(2,z7 h)] (n16 (oY ?_));obtain⟨w2,e20,z⟩:=oS z;exact lZ z [.cell 2 34] [.agg w2] (rY e20 zd)
noncomputable def z118(h_2:AHeap)(k12:AHeap→R)(self:Int→AHeap→R)(t2:Int)(h_20:AHeap):R:=lett (decide (t2<256)) fun (t5:Bool)=>ifB t5 (obind (z44a .i64 t2 64) fun t9=>obind (z20b 4 1 (AV.ptr (AHeap.next h_2) 1) t9) fun t11=>obind (z9 h_20 t11) fun v12=>obind (z2c .u64 v12) fun t12=>obind (z448 .i64 t2 64) fun t14=>obind (shlI .u64 1 t14) fun t15=>lett (orI .u64 t12 t15) fun (t16:Int)=>obind (z20b 4 1 (AV.ptr (AHeap.next h_2) 1) t9) fun t18=>obind (z16 h_20 1 [.int .u64 t16] t18) fun h_34=>lett (IntKind.i64.wrap (t2+1)) fun (t7:Int)=>self t7 h_34) (k12 h_20)
noncomputable def z145(h_2:AHeap)(k12:AHeap→R):Nat→Int→AHeap→R:=zbd (fun _ _=>none) (z118 h_2 k12)
theorem z18a(h_2:AHeap)(k12:AHeap→R)(m:Nat):z145 h_2 k12 (m+1)=z118 h_2 k12 (z145 h_2 k12 m):=rfl
noncomputable def z170(_:zf)(n:Nat)(h:AHeap):R:=lett (newH h 34 [.int .i64 0,.int .u64 0,.int .u64 0,.int .u64 0,.int .u64 0,.nsl]) fun h_2=>lett (newH h_2 34 [.int .i64 0,.int .u64 0,.int .u64 0,.int .u64 0,.int .u64 0,.nsl]) fun h_5=>obind (z16 h_5 6 ([.int .i64 2,.int .u64 0,.int .u64 0,.int .u64 0,.int .u64 0,.nsl]:List AV) (z7 h_2)) fun h_7=>lett (fun (h_13:AHeap)=>obind (z15 h_13 6 (z7 h_2)) fun t19=>obind (z16 h_13 6 t19 (z7 h)) fun h_16=>obind (z15 h_16 6 (z7 h)) fun w0=>some (.ret (.agg w0),h_16)) fun k12=>z145 h_2 k12 n 0 h_7
theorem z3b4{call:zf}(hc:SaysAll Pg call){n:Nat}{h:AHeap}{rR:ARes}{hR:AHeap}(z:z170 call n h=some (rR,hR)):Says Pg 45 [] h rR hR:=by
 unfold z170 at z;refine sO Tryd.func45 fun w0 m0=>?_;refine wW [] ?_;refine oG fun n1=>W.r ?_;refine oN 0 z fun h_2 z=>?_;refine oV [(0,z7 h)] (n1 ?_);refine oG fun n4=>W.r ?_;refine oA 3 (.agg ([.int .i64 2,.int .u64 0,.int .u64 0,.int .u64 0,.int .u64 0,.nsl]:List AV)) ?_;refine oN 1 z fun h_5 z=>?_;refine oW 34 (.agg ([.int .i64 2,.int .u64 0,.int .u64 0,.int .u64 0,.int .u64 0,.nsl]:List AV)) z fun h_7 z=>?_;refine oV [(0,z7 h),(1,z7 h_2)] (n4 ?_);refine W.s (fun K9 n9 _ _ _=>?_);refine oG fun n10=>W.r ?_;refine oA 2 (.int .i64 0) ?_;refine oV [(0,z7 h),(1,z7 h_2),(2,.int .i64 0)] (n10 ?_);obtain⟨k12,e12,z⟩:=lS z
 have J12:∀(h_13:AHeap),k12 h_13=some (rR,hR)→Go w0 m0 (Func.ntmps Tryd.f45) (K9 .normal) [(0,z7 h),(1,z7 h_2)] [] h_13:=by
  intro h_13 z;rw[e12] at z;refine n9 ?_;refine oG fun n14=>W.r ?_;refine oR 19 34 z fun t19 z=>?_;refine oW 34 (.agg t19) z fun h_16 z=>?_;refine oV [(0,z7 h)] (n14 (oY ?_));obtain⟨w0,e18,z⟩:=oS z;exact lZ z [.cell 0 34] [.agg w0] (rY e18 zd)
 refine ye (by kernel_rfl) (fun K11 n11 s11 o11 q11 p11=>?_);refine y17 (by kernel_rfl) (fun I19 K19 b19 n19 e19 q19 p19=>?_)
 have L19:∀(m:Nat) (t2:Int) (h_20:AHeap),z145 h_2 k12 m t2 h_20=some (rR,hR)→Go w0 m0 (Func.ntmps Tryd.f45) I19 [(0,z7 h),(1,z7 h_2),(2,.int .i64 t2)] [] h_20:=by
  intro m
  induction m with
  |zero=>intro t2 h_20 z;cases z
  |succ m ih19=>
   intro t2 h_20 z;rw[z18a] at z;unfold z118 at z;refine b19 ?_;refine W.s (fun _ n21 e21 _ _=>?_);refine oG fun n22=>W.r ?_;refine oA 4 (.int .i64 t2) ?_;refine oB 5 z fun t5 z=>?_;refine oV [(0,z7 h),(1,z7 h_2),(2,.int .i64 t2),(5,.bool t5)] (n22 ?_)
   cases t5 with
   |true=>
    refine oT z fun z=>?_;refine oZ (n21 ?_);refine oG fun n24=>?_;refine ye (by kernel_rfl) (fun K25 n25 s25 o25 q25 p25=>?_);refine y26 (by kernel_rfl) (hc.ok w0) (plan:=[0,1,2,3,4,5,6,7,8,9,10,11]) (by kernel_rfl) (by kernel_rfl) (by kernel_rfl) ?_;refine WD.a 0 (some 8) (.int .i64 t2) h_20 ?_;obtain⟨t9,e26,z⟩:=oS z;refine WD.b 0 (some 9) (.int .i64 t9) h_20 (z268 (P:=Pg) (h:=h_20) (t:=3) (lit:=true) e26) ?_;refine WD.a 0 (some 10) (AV.ptr (AHeap.next h_2) 1) h_20 ?_;obtain⟨t11,e27,z⟩:=oS z;refine WD.b 0 (some 11) t11 h_20 (z9b (P:=Pg) (h:=h_20) (t:=31) (e':=29) (k:=.i64) (by kernel_rfl) (by kernel_rfl) (by kernel_rfl) e27) ?_
    replace z:=oS z;obtain⟨v12,e28,z⟩:=z
    replace z:=oS z;obtain⟨t12,c29,z⟩:=z
    have c29:=z26 c29;subst c29;refine WD.b 1 (some 12) (.int .u64 t12) h_20 (z1f (P:=Pg) (h:=h_20) (t:=29) (by kernel_rfl) e28) ?_;refine WD.a 0 (some 13) (.int .i64 t2) h_20 ?_;obtain⟨t14,e30,z⟩:=oS z;refine WD.b 0 (some 14) (.int .i64 t14) h_20 (z266 (P:=Pg) (h:=h_20) (t:=3) (lit:=true) e30) ?_;obtain⟨t15,e31,z⟩:=oS z;refine WD.b 0 (some 15) (.int .u64 t15) h_20 (z262 (P:=Pg) (h:=h_20) (t:=29) (k':=.i64) (lit:=true) e31) ?_;obtain⟨t16,e32,z⟩:=lS z;refine WD.val (d:=(some 16)) (v:=.int .u64 t16) (h':=h_20) (by kernel_rfl) (by kernel_rfl) (zb4 (AV.int .u64) e32 (by kernel_rfl)) (k:=0) (by kernel_rfl) (fun e=>absurd e (by decide)) (by decide) ?_;refine WD.a 0 (some 17) (AV.ptr (AHeap.next h_2) 1) h_20 ?_;obtain⟨t18,e33,z⟩:=oS z;refine WD.b 0 (some 18) t18 h_20 (z9b (P:=Pg) (h:=h_20) (t:=31) (e':=29) (k:=.i64) (by kernel_rfl) (by kernel_rfl) (by kernel_rfl) e33) ?_;obtain⟨h_34,e35,z⟩:=oS z;refine WD.eff (h':=h_34) (by kernel_rfl) (by kernel_rfl) (Eq.trans (by kernel_rfl) (z61 (P:=Pg) (h:=h_20) (t:=29) (v:=(.int .u64 t16)) (by kernel_rfl) (by kernel_rfl) e35)) (k:=2) (by kernel_rfl) (fun _=>(by kernel_rfl)) (by decide) ?_;refine WD.nil ?_;refine gW [(0,z7 h),(1,z7 h_2),(2,.int .i64 t2)] (n25 (n24 (W.r ?_)));refine oA 6 (.int .i64 t2) ?_;refine oI 7 .i64 z fun t7 z=>?_;refine oA 2 (.int .i64 t7) ?_;refine oV [(0,z7 h),(1,z7 h_2),(2,.int .i64 t7)] (n19 ?_);exact gW _ (ih19 _ _ z)
   |false=>
    refine oU z fun z=>?_;refine W.exit (by kernel_rfl) ?_;refine e21 (e19 ?_);refine s11 (by kernel_rfl) ?_;exact gW _ (J12 _ z)
 exact gW _ (L19 _ _ _ z)
noncomputable def zff(_:zf)(_:Nat)(t0:Int)(t1:AV)(h:AHeap):R:=lett (newH h 34 [.int .i64 0,.int .u64 0,.int .u64 0,.int .u64 0,.int .u64 0,.nsl]) fun h_2=>obind (z249 t1) fun t6=>lett ((t6:Int) == 0) fun (t7:Bool)=>ifB t7 (obind (z16 h_2 6 ([.int .i64 1,.int .u64 0,.int .u64 0,.int .u64 0,.int .u64 0,.nsl]:List AV) (z7 h)) fun h_9=>obind (z15 h_9 6 (z7 h)) fun w4=>some (.ret (.agg w4),h_9)) (obind (z249 t1) fun t10=>lett ((t10:Int) == 1) fun (t11:Bool)=>ifB t11 (obind (ze8 6 t1 0) fun t13=>obind (z15 h_2 6 t13) fun t14=>obind (z16 h_2 6 t14 (z7 h)) fun h_19=>obind (z15 h_19 6 (z7 h)) fun w4_22=>some (.ret (.agg w4_22),h_19)) (obind (z27a Pg 34 [(0,.int .i64 t0),(2,t1)]) fun t17=>obind (z16 h_2 6 t17 (z7 h)) fun h_25=>obind (z15 h_25 6 (z7 h)) fun w4_28=>some (.ret (.agg w4_28),h_25)))
theorem z35e{call:zf}(_:SaysAll Pg call){n:Nat}{t0:Int}{t1:AV}{h:AHeap}{rR:ARes}{hR:AHeap}(z:zff call n t0 t1 h=some (rR,hR)):Says Pg 44 [.int .i64 t0,t1] h rR hR:=by
 unfold zff at z;refine sO Tryd.func44 fun w0 m0=>?_;refine wW [(0,.int .i64 t0),(1,t1)] ?_;refine oG fun n1=>W.r ?_;refine oN 4 z fun h_2 z=>?_;refine oV [(0,.int .i64 t0),(1,t1),(4,z7 h)] (n1 ?_);refine oH fun n4 q4=>?_;refine oG fun n5=>W.r ?_;refine oA 5 t1 ?_;refine oM 6 32 34 z fun t6 z=>?_;refine oB 7 z fun t7 z=>?_;refine oV [(0,.int .i64 t0),(1,t1),(4,z7 h),(7,.bool t7)] (n5 ?_)
 cases t7 with
 |true=>
  refine oT z fun z=>?_;refine oG fun n8=>W.r ?_;refine oA 8 (.agg ([.int .i64 1,.int .u64 0,.int .u64 0,.int .u64 0,.int .u64 0,.nsl]:List AV)) ?_;refine oW 34 (.agg ([.int .i64 1,.int .u64 0,.int .u64 0,.int .u64 0,.int .u64 0,.nsl]:List AV)) z fun h_9 z=>?_;refine oV [(4,z7 h)] (n8 (oY (q4 ?_)));obtain⟨w4,e11,z⟩:=oS z;exact lZ z [.cell 4 34] [.agg w4] (rY e11 zd)
 |false=>
  refine oU z fun z=>?_;refine oZ (n4 ?_);refine oH fun n12 q12=>?_;refine oG fun n13=>W.r ?_;refine oA 9 t1 ?_;refine oM 10 32 34 z fun t10 z=>?_;refine oB 11 z fun t11 z=>?_;refine oV [(0,.int .i64 t0),(1,t1),(4,z7 h),(11,.bool t11)] (n13 ?_)
  cases t11 with
  |true=>
   refine oT z fun z=>?_;refine oG fun n16=>W.r ?_;refine oA 12 t1 ?_;refine oP 13 32 34 .i64 z fun t13 z=>?_;refine oR 14 34 z fun t14 z=>?_;refine oW 34 (.agg t14) z fun h_19 z=>?_;refine oV [(4,z7 h)] (n16 (oY (q12 ?_)));obtain⟨w4_22,e21,z⟩:=oS z;exact lZ z [.cell 4 34] [.agg w4_22] (rY e21 zd)
  |false=>
   refine oU z fun z=>?_;refine oZ (n12 ?_);refine oG fun n23=>W.r ?_;refine oA 15 (.int .i64 t0) ?_;refine oA 16 t1 ?_;obtain⟨t17,e24,z⟩:=oS z;refine WL.val (d:=(some 17)) (v:=.agg t17) (h':=h_2) (by kernel_rfl) (by kernel_rfl) (z1ef (by kernel_rfl) e24) ?_;refine oW 34 (.agg t17) z fun h_25 z=>?_;refine oV [(4,z7 h)] (n23 (oY ?_));obtain⟨w4_28,e27,z⟩:=oS z;exact lZ z [.cell 4 34] [.agg w4_28] (rY e27 zd)
end Go.Proofs.YtakhljnkmbpmpaaDoor
