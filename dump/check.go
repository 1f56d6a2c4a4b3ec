package dump

import (
	"cmp"
	"slices"

	"castellan/api"
	"castellan/fault"
	"castellan/image"
	"castellan/record"
)

// Check looks whether metadata may be.
func Check(m api.Image) error {
	for _, check := range [...]func(api.Image) error{checkBrokers, checkTopics, checkConfigs, checkDone} {
		if err := check(m); err != nil {
			return err
		}
	}
	return nil
}

// within tells whether a number is from least to most.
func within(n, least, most int) bool { return least <= n && n <= most }

// checkBrokers looks whether the brokers may be.
func checkBrokers(m api.Image) error {
	ahead := 0
	for i, b := range m.Brokers {
		switch {
		case b.Id <= ahead || b.Id > api.MaxBrokers || !within(b.Epoch, 0, api.MaxNum) || !record.Name(b.Rack):
			return fault.New("broker", i, api.ErrRange)
		case b.Fenced && b.Leaving && leads(m, b.Id):
			return fault.New("broker", i, api.ErrState)
		}
		ahead = b.Id
	}
	return nil
}

// leads tells whether a broker leads a partition. Package image tells so of metadata alone that come of records, and these may not.
func leads(m api.Image, id int) bool {
	return slices.ContainsFunc(m.Topics, func(t api.Topic) bool {
		return slices.ContainsFunc(t.Parts, func(p api.Part) bool { return p.Leader == id })
	})
}

// checkTopics looks whether the topics may be, behind the brokers, with which nothing is wrong.
func checkTopics(m api.Image) error {
	if len(m.Topics) > api.MaxTopics || !within(m.Last, 0, api.MaxNum) {
		return fault.New("topic", len(m.Topics), api.ErrLimit)
	}
	// Brokers with which nothing is wrong may come of records, so package image may be asked about them, alone.
	brokers := api.Image{Brokers: m.Brokers}
	ahead := 0
	for i, t := range m.Topics {
		if t.Id <= ahead || t.Id > m.Last || !record.Name(t.Name) || named(m.Topics[:i], t.Name) || len(t.Parts) > api.MaxParts {
			return fault.New("topic", i, api.ErrRange)
		}
		if n := slices.IndexFunc(t.Parts, func(p api.Part) bool { return !may(brokers, p) }); n >= 0 {
			return fault.Wrap("topic", i, fault.New("part", n, api.ErrState))
		}
		ahead = t.Id
	}
	return nil
}

// named tells whether one of these topics has a name.
func named(l []api.Topic, name string) bool {
	return slices.ContainsFunc(l, func(t api.Topic) bool { return t.Name == name })
}

// may tells whether a partition may be, of the brokers that there are.
func may(brokers api.Image, p api.Part) bool {
	if !rows(p) || !within(p.Epoch, 0, api.MaxNum) {
		return false
	}
	foreign := func(id int) bool {
		_, there := image.Broker(brokers, id)
		return !there
	}
	return len(p.Ids) > 0 && !slices.ContainsFunc(p.Ids, foreign) &&
		len(p.Isr) > 0 && among(p.Isr, p.Ids) &&
		(p.Leader == 0 || slices.Contains(p.Isr, p.Leader) && image.Alive(brokers, p.Leader)) &&
		among(p.Add, p.Ids) && among(p.Drop, p.Ids) && apart(p.Add, p.Drop)
}

// rows tells whether each row of a partition may be one of brokers.
func rows(p api.Part) bool {
	return record.Brokers(p.Ids) && record.Brokers(p.Isr) && record.Brokers(p.Add) && record.Brokers(p.Drop)
}

// among tells whether all of a list are in another one, too.
func among(l, all []int) bool {
	return !slices.ContainsFunc(l, func(id int) bool { return !slices.Contains(all, id) })
}

// apart tells whether two lists have nothing in common.
func apart(a, b []int) bool {
	return !slices.ContainsFunc(a, func(id int) bool { return slices.Contains(b, id) })
}

// checkConfigs looks whether the settings may be, behind the topics, with which nothing is wrong.
func checkConfigs(m api.Image) error {
	// Brokers and topics with which nothing is wrong may come of records, so package image may be asked about them, alone.
	topics := api.Image{Brokers: m.Brokers, Topics: m.Topics, Last: m.Last}
	for i, c := range m.Configs {
		_, there := image.Topic(topics, c.Topic)
		switch {
		case c.Topic != 0 && !there || !record.Name(c.Key) || len(c.Value) > api.MaxValue:
			return fault.New("config", i, api.ErrRange)
		case i > 0 && !follows(m.Configs[i-1], c):
			return fault.New("config", i, api.ErrState)
		}
	}
	return nil
}

// follows tells whether a setting stands behind another one.
func follows(ahead, c api.Config) bool {
	return cmp.Or(cmp.Compare(ahead.Topic, c.Topic), cmp.Compare(ahead.Key, c.Key)) < 0
}

// checkDone looks whether the answers may be.
func checkDone(m api.Image) error {
	if len(m.Done) > api.MaxDone {
		return fault.New("done", len(m.Done), api.ErrLimit)
	}
	for i, d := range m.Done {
		if !within(d.Client, 1, api.MaxNum) || !within(d.Serial, 1, api.MaxNum) || !within(d.Code, 0, int(api.ErrOther)) || known(m.Done[:i], d) {
			return fault.New("done", i, api.ErrRange)
		}
	}
	return nil
}

// known tells whether one of these answers is to the same client's same serial.
func known(l []api.Done, d api.Done) bool {
	return slices.ContainsFunc(l, func(x api.Done) bool { return x.Client == d.Client && x.Serial == d.Serial })
}
