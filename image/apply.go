package image

import (
	"slices"

	"castellan/api"
	"castellan/fault"
	"castellan/record"
)

// Apply is an image behind a record that is a legal step.
func Apply(m api.Image, r api.Record) (api.Image, error) {
	if err := record.Check(r); err != nil {
		return m, fault.Wrap("record", r.Kind, err)
	}
	next, err := step(m, r)
	if err != nil {
		return m, fault.Wrap("apply", r.Kind, err)
	}
	return next, nil
}

// All is an image behind records, all of them, or none.
func All(m api.Image, l []api.Record) (api.Image, error) {
	next := m
	for i, r := range l {
		var err error
		if next, err = Apply(next, r); err != nil {
			return m, fault.Wrap("record", i, err)
		}
	}
	return next, nil
}

// step is an image behind a record that may be, if it is a legal step. It, and each of the steps below, is handed an image of its own, but none of its lists: another list takes the place of one that is to be another.
func step(m api.Image, r api.Record) (api.Image, error) {
	switch r.Kind {
	case api.RBroker:
		return register(m, r)
	case api.RFence, api.ROpen, api.RLeave, api.RGone:
		return turn(m, r)
	case api.RTopic:
		return create(m, r)
	case api.RPart, api.RChange:
		return replicate(m, r)
	case api.RConfig:
		return configure(m, r)
	case api.RDrop:
		return drop(m, r)
	case api.RDone:
		return answer(m, r)
	}
	return m, nil
}

// put is a list in new memory with something at a place: in the stead of what is there, or ahead of what follows.
func put[T any](l []T, place int, there bool, x T) []T {
	rest := l[place:]
	if there {
		rest = rest[1:]
	}
	return slices.Concat(l[:place], []T{x}, rest)
}

// without is a list in new memory without what stands at a place.
func without[T any](l []T, place int) []T { return slices.Concat(l[:place], l[place+1:]) }

// register registers a broker, or registers it again with a later epoch.
func register(m api.Image, r api.Record) (api.Image, error) {
	place, there := findBroker(m, r.Broker)
	if there && m.Brokers[place].Epoch >= r.Epoch {
		return m, api.ErrEpoch
	}
	// It is fenced from here on, and who is fenced leads nothing.
	if there && Leads(m, r.Broker) {
		return m, api.ErrState
	}
	m.Brokers = put(m.Brokers, place, there, api.Broker{Id: r.Broker, Epoch: r.Epoch, Rack: r.Rack, Fenced: true})
	return m, nil
}

// turn fences a broker, or opens it, has it leave, or be gone.
func turn(m api.Image, r api.Record) (api.Image, error) {
	place, there := findBroker(m, r.Broker)
	if !there {
		return m, api.ErrNone
	}
	b := m.Brokers[place]
	if b.Epoch != r.Epoch {
		return m, api.ErrEpoch
	}
	if !turns(m, b, r.Kind) {
		return m, api.ErrState
	}
	switch r.Kind {
	case api.RFence:
		b.Fenced = true
	case api.ROpen:
		b.Fenced, b.Leaving = false, false
	case api.RLeave:
		b.Leaving = true
	case api.RGone:
		m.Brokers = without(m.Brokers, place)
		return m, nil
	}
	m.Brokers = put(m.Brokers, place, true, b)
	return m, nil
}

// turns tells whether a broker is such that a record of a kind may turn it.
func turns(m api.Image, b api.Broker, kind int) bool {
	switch kind {
	case api.RFence:
		return !b.Fenced && !Leads(m, b.Id)
	case api.ROpen:
		return b.Fenced
	case api.RLeave:
		return !b.Fenced && !b.Leaving
	}
	return !holds(m, b.Id)
}

// create makes a topic, without partitions.
func create(m api.Image, r api.Record) (api.Image, error) {
	if r.Topic != m.Last+1 {
		return m, api.ErrState
	}
	if _, there := Named(m, r.Name); there {
		return m, api.ErrExists
	}
	if len(m.Topics) >= api.MaxTopics {
		return m, api.ErrLimit
	}
	m.Topics = put(m.Topics, len(m.Topics), false, api.Topic{Id: r.Topic, Name: r.Name})
	m.Last = r.Topic
	return m, nil
}

// drop has a topic be gone, and its settings.
func drop(m api.Image, r api.Record) (api.Image, error) {
	place, there := findTopic(m, r.Topic)
	if !there {
		return m, api.ErrNone
	}
	m.Topics = without(m.Topics, place)
	m.Configs = slices.DeleteFunc(slices.Clone(m.Configs), func(c api.Config) bool { return c.Topic == r.Topic })
	return m, nil
}

// replicate makes a partition of a topic, or changes it.
func replicate(m api.Image, r api.Record) (api.Image, error) {
	place, there := findTopic(m, r.Topic)
	if !there {
		return m, api.ErrNone
	}
	// A record that makes a partition is about no epoch, and about nothing that moves: these are 0, and none. What lies behind a record's lists is not to be handed out, so the partition has lists of its own.
	p := Alone(api.Part{Ids: r.Ids, Isr: r.Isr, Leader: r.Leader, Epoch: r.Epoch, Add: r.Add, Drop: r.Drop})
	if err := may(m, p); err != nil {
		return m, err
	}
	t := m.Topics[place]
	if err := follows(t.Parts, r, p); err != nil {
		return m, err
	}
	t.Parts = put(t.Parts, r.Part, r.Kind == api.RChange, p)
	m.Topics = put(m.Topics, place, true, t)
	return m, nil
}

// may tells what is wrong with a partition.
func may(m api.Image, p api.Part) error {
	foreign := func(id int) bool { return !slices.Contains(p.Ids, id) }
	switch {
	case len(p.Ids) == 0 || slices.ContainsFunc(p.Ids, func(id int) bool { return !registered(m, id) }):
		return fault.New("ids", 0, api.ErrReplicas)
	case len(p.Isr) == 0 || slices.ContainsFunc(p.Isr, foreign):
		return fault.New("isr", 0, api.ErrReplicas)
	case p.Leader != 0 && (!slices.Contains(p.Isr, p.Leader) || !Alive(m, p.Leader)):
		return fault.New("leader", 0, api.ErrFenced)
	case slices.ContainsFunc(p.Add, foreign) || slices.ContainsFunc(p.Drop, foreign) ||
		slices.ContainsFunc(p.Add, func(id int) bool { return slices.Contains(p.Drop, id) }):
		return fault.New("moves", 0, api.ErrReplicas)
	}
	return nil
}

// registered tells whether a broker is.
func registered(m api.Image, id int) bool {
	_, there := findBroker(m, id)
	return there
}

// follows tells why a partition can't be the next one of a topic, or not what becomes of one that is there.
func follows(l []api.Part, r api.Record, p api.Part) error {
	if r.Kind == api.RPart {
		if r.Part != len(l) {
			return api.ErrState
		}
		return nil
	}
	if r.Part >= len(l) {
		return api.ErrNone
	}
	old := l[r.Part]
	// In an epoch there is one leader, or nobody: another one takes the next epoch.
	if p.Epoch != old.Epoch+1 && (p.Epoch != old.Epoch || p.Leader != old.Leader) {
		return api.ErrEpoch
	}
	if Same(old, p) {
		return api.ErrState
	}
	return nil
}

// configure makes a setting, has it be another, or takes it away.
func configure(m api.Image, r api.Record) (api.Image, error) {
	if _, there := findTopic(m, r.Topic); r.Topic != 0 && !there {
		return m, api.ErrNone
	}
	place, there := findConfig(m, r.Topic, r.Key)
	if r.Flag && !there {
		return m, api.ErrNone
	}
	if r.Flag {
		m.Configs = without(m.Configs, place)
		return m, nil
	}
	m.Configs = put(m.Configs, place, there, api.Config{Topic: r.Topic, Key: r.Key, Value: r.Value})
	return m, nil
}

// answer has an answer be known, as the last one.
func answer(m api.Image, r api.Record) (api.Image, error) {
	if _, known := Answered(m, r.Client, r.Serial); known {
		return m, api.ErrExists
	}
	known := m.Done[max(0, len(m.Done)+1-api.MaxDone):]
	m.Done = put(known, len(known), false, api.Done{Client: r.Client, Serial: r.Serial, Code: r.Code})
	return m, nil
}
